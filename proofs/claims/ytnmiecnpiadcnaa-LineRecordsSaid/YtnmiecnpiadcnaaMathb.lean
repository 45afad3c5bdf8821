/-
  Plain functions, continued: distances, ranges, paths.
-/
import Derived.Test.YtnmiecnpiadcnaaMath
set_option linter.unusedVariables false
set_option linter.unusedSimpArgs false
namespace Go.Proofs.Ytnmiecnpiadcnaa.Ln

theorem settleF_small {bs : List Bd} {N : Nat} (hok : Ok N bs) (r : Nat) {K : Int} {d : List Int} (hd : d.length = 128) (hs : Sm K d) (h0 : 0 ≤ K) (hK : K + 256256000000 * r ≤ 100000000000000000) :
    (settleF bs N r d).1.length = 128 ∧ Sm (K + 256256000000 * r) (settleF bs N r d).1 := by
  have ht := hok.top
  induction r generalizing d K with
  | zero => exact ⟨hd, by simpa [settleF] using hs⟩
  | succ r ih =>
    have h1 := roundF_small hok (s := (d, false)) N (Nat.le_refl _) ⟨hd, hs⟩ h0 (by omega)
    rw [settleF]
    split
    · have h2 := ih h1.1 h1.2 (by omega) (by omega)
      exact ⟨h2.1, h2.2.mono (by omega)⟩
    · exact ⟨h1.1, h1.2.mono (by omega)⟩

def consF (bs : List Bd) (N : Nat) : Bool := (settleF bs N N zeros).2
def distF (bs : List Bd) (N a : Nat) : List Int := (settleF bs N N (nones.set a 0)).1

theorem zeros_small : Sm 0 zeros := fun x hx => by
  have := (List.mem_replicate.1 hx).2
  exact .inr (by omega)
theorem nones_small : Sm 0 nones := fun x hx => .inl (List.mem_replicate.1 hx).2
theorem start_small (a : Nat) : Sm 0 (nones.set a 0) := nones_small.set a (.inr (by omega))
theorem start_length (a : Nat) : (nones.set a 0).length = 128 := by simp [nones_length]
theorem distF_small {bs : List Bd} {N : Nat} (hok : Ok N bs) (a : Nat) : (distF bs N a).length = 128 ∧ Sm 100000000000000 (distF bs N a) := by
  have ht := hok.top
  have := settleF_small hok N (start_length a) (start_small a) (by omega) (by omega)
  exact ⟨this.1, this.2.mono (by omega)⟩

/-- checkPoints. -/
def cpF (N : Int) (bs : List Bd) (ps : List Int) : Int := if check N bs = 0 then (if ps.all (isPoint N) then 0 else 1) else check N bs
theorem cpF_bad {N : Int} {bs : List Bd} {ps : List Int} (h : check N bs ≠ 0) : cpF N bs ps = check N bs := by rw [cpF, if_neg h]
theorem cpF_no {N : Int} {bs : List Bd} {ps : List Int} (h : check N bs = 0) {k : Nat} (hk : k < ps.length) (hp : isPoint N ps[k] = false) : cpF N bs ps = 1 := by
  rw [cpF, if_pos h, if_neg]
  intro ha
  rw [List.all_eq_true.1 ha _ (List.getElem_mem hk)] at hp
  cases hp
theorem cpF_ok {N : Int} {bs : List Bd} {ps : List Int} (h : check N bs = 0) (ha : (ps.take ps.length).all (isPoint N) = true) : cpF N bs ps = 0 := by
  rw [List.take_length] at ha
  rw [cpF, if_pos h, if_pos ha]
theorem cpF_zero {N : Int} {bs : List Bd} {ps : List Int} (h : cpF N bs ps = 0) : check N bs = 0 := by
  unfold cpF at h
  split at h
  · assumption
  · exact h

/-- The net of a system, or the error of one without. -/
def soundF (N : Int) (bs : List Bd) (ps : List Int) : Int := if cpF N bs ps = 0 then (if consF bs N.toNat then 0 else 10) else cpF N bs ps
def dF (N : Int) (bs : List Bd) (a b : Int) : Int := gt (distF bs N.toNat a.toNat) b.toNat
theorem pts_of {N : Int} {bs : List Bd} {ps : List Int} (h : cpF N bs ps = 0) {p : Int} (hp : p ∈ ps) : 0 ≤ p ∧ p < N := by
  have h0 := cpF_zero h
  rw [cpF, if_pos h0] at h
  split at h
  · rename_i ha
    have := List.all_eq_true.1 ha p hp
    simpa [isPoint] using this
  · cases h

/-- The ends of a range: the number, and whether it is there. -/
def lowF (v d : Int) : Int × Bool := if d = NONE then (0, false) else (v - d, true)
def highF (v d : Int) : Int × Bool := if d = NONE then (0, false) else (v + d, true)

/-- Between and Distance, errors and all. -/
def btF (N : Int) (bs : List Bd) (a b : Int) : (Int × Bool) × (Int × Bool) × Int := if soundF N bs [a, b] = 0 then (lowF 0 (dF N bs b a), highF 0 (dF N bs a b), 0) else ((0, false), (0, false), soundF N bs [a, b])
def diF (N : Int) (bs : List Bd) (a b : Int) : Int × Bool × Int := if soundF N bs [a, b] = 0 then (if dF N bs a b = NONE then (0, false, 0) else (dF N bs a b, true, 0)) else (0, false, soundF N bs [a, b])

/-! Paths with one bound more. -/
def lgS (d : List Int) (p : Nat) (o : List Int) (b : Bd) : List Int := if gt d b.t.toNat = NONE then o else o.set p (min (gt o p) (b.m + gt d b.t.toNat))
def lgL (bs : List Bd) (d : List Int) (p : Nat) (l : List Nat) (o : List Int) : List Int := l.foldl (fun o i => lgS d p o (bd bs i)) o
def lgF (bs : List Bd) (d : List Int) (N : Nat) : List Int := (List.range N).foldl (fun o p => lgL bs d p (idx bs p) o) nones
theorem lgL_nil (bs : List Bd) (d : List Int) (p : Nat) (o : List Int) : lgL bs d p [] o = o := rfl
theorem lgL_snoc (bs : List Bd) (d : List Int) (p : Nat) (l : List Nat) (i : Nat) (o : List Int) : lgL bs d p (l ++ [i]) o = lgS d p (lgL bs d p l o) (bd bs i) := by simp [lgL]
theorem lgF_succ (bs : List Bd) (d : List Int) (k : Nat) : lgF bs d (k + 1) = lgL bs d k (idx bs k) (lgF bs d k) := by simp [lgF, List.range_succ]

theorem lgS_small {bs : List Bd} {N : Nat} (hok : Ok N bs) {K : Int} {d o : List Int} {p i : Nat} (hp : p < 128) (hi : i < bs.length) (hd : d.length = 128) (hs : Sm K d) (h : o.length = 128 ∧ Sm (K + 1000000) o) :
    (lgS d p o (bd bs i)).length = 128 ∧ Sm (K + 1000000) (lgS d p o (bd bs i)) := by
  have hb := hok.each _ (bd_mem hi)
  have ht := hok.top
  unfold lgS
  split
  · exact h
  · rename_i hne
    have h1 := (hs.at_ (k := (bd bs i).t.toNat) (by omega)).resolve_left hne
    have h2 := h.2.at_ (k := p) (by omega)
    have hN : NONE = 9223372036854775807 := rfl
    refine ⟨by simp [h.1], h.2.set p ?_⟩
    rw [Int.min_def]
    split
    · exact h2
    · exact .inr ⟨by omega, by omega⟩
theorem lgL_small {bs : List Bd} {N : Nat} (hok : Ok N bs) {K : Int} {d o : List Int} {p : Nat} (hp : p < 128) (hd : d.length = 128) (hs : Sm K d) (l : List Nat) (hl : ∀ i ∈ l, i < bs.length) (h : o.length = 128 ∧ Sm (K + 1000000) o) :
    (lgL bs d p l o).length = 128 ∧ Sm (K + 1000000) (lgL bs d p l o) := by
  induction l generalizing o with
  | nil => exact h
  | cons i l ih => exact ih (fun j hj => hl j (by simp [hj])) (lgS_small hok hp (hl i (by simp)) hd hs h)
theorem lgF_small {bs : List Bd} {N : Nat} (hok : Ok N bs) {K : Int} {d : List Int} (hd : d.length = 128) (hs : Sm K d) (h0 : 0 ≤ K) (k : Nat) (hk : k ≤ N) : (lgF bs d k).length = 128 ∧ Sm (K + 1000000) (lgF bs d k) := by
  have ht := hok.top
  induction k with
  | zero => exact ⟨nones_length, nones_small.mono (by omega)⟩
  | succ k ih =>
    rw [lgF_succ]
    exact lgL_small hok (by omega) hd hs _ (fun i hi => (idx_lt hi).1) (ih (by omega))

/-! Values, and the first bound that they do not keep. -/
def areV (N : Int) (y : List Int) : Bool := (decide ((y.length : Int) = N) && (decide (0 < y.length) && decide (gt y 0 = 0))) && y.all (fun v => within v 400000000)
def brkP (bs : List Bd) (y : List Int) (i : Nat) : Bool := decide ((bd bs i).m < gt y (bd bs i).t.toNat - gt y (bd bs i).f.toNat)
def brk (bs : List Bd) (y : List Int) : Option Nat := (List.range bs.length).find? (brkP bs y)
def keptF (N : Int) (bs : List Bd) (y : List Int) : Int × Bool × Int :=
  if check N bs = 0 then (if areV N y = true then (match brk bs y with | some i => ((i : Int), false, 0) | none => (0, true, 0)) else (0, false, 1)) else (0, false, check N bs)
theorem brk_some {bs : List Bd} {y : List Int} {k : Nat} (hk : k < bs.length) (h : ∀ j, j < k → brkP bs y j = false) (hp : brkP bs y k = true) : brk bs y = some k := by
  rw [brk, List.find?_range_eq_some]
  exact ⟨hp, by simpa using hk, fun j hj => by simp [h j hj]⟩
theorem brk_none {bs : List Bd} {y : List Int} (h : ∀ j, j < bs.length → brkP bs y j = false) : brk bs y = none := by
  rw [brk, List.find?_range_eq_none]
  exact fun j hj => by simp [h j hj]
theorem areV_spec {N : Int} {y : List Int} (h : areV N y = true) : (y.length : Int) = N ∧ ∀ k, k < y.length → -400000000 ≤ gt y k ∧ gt y k ≤ 400000000 := by
  simp only [areV, Bool.and_eq_true, decide_eq_true_eq, List.all_eq_true] at h
  refine ⟨h.1.1, fun k hk => ?_⟩
  have := h.2 (gt y k) (by rw [gt_eq hk]; exact List.getElem_mem hk)
  simpa [within] using this

end Go.Proofs.Ytnmiecnpiadcnaa.Ln
