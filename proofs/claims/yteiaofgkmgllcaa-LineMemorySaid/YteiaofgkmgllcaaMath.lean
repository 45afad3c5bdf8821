/-
  The plain mathematics of package line: bounds, rounds, distances, values, paths, circles.
-/
set_option linter.unusedVariables false
set_option linter.unusedSimpArgs false
namespace Go.Proofs.Yteiaofgkmgllcaa.Ln

structure Bd where
  f : Int
  t : Int
  m : Int
  r : Int
  /-- No bound of a system is 'gone'; Needless takes bounds out of its net's lists, and leaves them in the system. -/
  gone : Bool := false
deriving DecidableEq

/-- It stands where there is no path. -/
def NONE : Int := 9223372036854775807
theorem NONE_eq : NONE = 9223372036854775807 := rfl

/-- What a list holds at a place (0 beyond its end). -/
def gt (d : List Int) (k : Nat) : Int := d.getD k 0
theorem gt_set (d : List Int) (k j : Nat) (x : Int) (hk : k < d.length) : gt (d.set k x) j = if j = k then x else gt d j := by
  unfold gt
  by_cases h : j = k
  · subst h
    simp [hk]
  · rw [if_neg h]
    simp [show ¬ k = j from fun e => h e.symm]
theorem gt_eq {d : List Int} {k : Nat} (hk : k < d.length) : gt d k = d[k] := by
  unfold gt
  simp [hk]

def zeros : List Int := List.replicate 128 0
def nones : List Int := List.replicate 128 NONE
def fill (k : Nat) : List Int := List.replicate k NONE ++ List.replicate (128 - k) 0
theorem zeros_length : zeros.length = 128 := by simp [zeros]
theorem nones_length : nones.length = 128 := by simp [nones]
theorem fill_length {k : Nat} (h : k ≤ 128) : (fill k).length = 128 := by simp [fill]; omega
theorem fill_zero : fill 0 = zeros := rfl
theorem fill_all : fill 128 = nones := by simp [fill, nones]
theorem fill_next (k : Nat) (hk : k < 128) : (fill k).set k 9223372036854775807 = fill (k + 1) := by
  unfold fill
  rw [show (9223372036854775807 : Int) = NONE from rfl]
  generalize NONE = x
  apply List.ext_getElem?
  intro i
  simp only [List.getElem?_set, List.getElem?_append, List.length_append, List.length_replicate, List.getElem?_replicate]
  by_cases h1 : i < k
  · simp [h1, show ¬ k = i by omega, show i < k + 1 by omega]
  · by_cases h2 : k = i
    · subst h2
      simp [show k < k + (128 - k) by omega]
    · simp [h1, h2, show ¬ i < k + 1 by omega, show (i - k < 128 - k) = (i - (k + 1) < 128 - (k + 1)) by simp; omega]

def isPoint (n p : Int) : Bool := decide (0 ≤ p) && decide (p < n)
def within (x most : Int) : Bool := decide (-most ≤ x) && decide (x ≤ most)
def valid (n : Int) (b : Bd) : Bool :=
  isPoint n b.f && (isPoint n b.t && (!(b.f == b.t) && (within b.m 1000000 && (decide (0 ≤ b.r) && decide (b.r ≤ 1000000)))))

def check (N : Int) (bs : List Bd) : Int :=
  if 128 < N ∨ 2000 < bs.length then 2 else if N < 1 then 1 else if bs.all (valid N) then 0 else 1

theorem valid_iff {n : Int} {b : Bd} : valid n b = true ↔ (0 ≤ b.f ∧ b.f < n) ∧ (0 ≤ b.t ∧ b.t < n) ∧ b.f ≠ b.t ∧ (-1000000 ≤ b.m ∧ b.m ≤ 1000000) ∧ 0 ≤ b.r ∧ b.r ≤ 1000000 := by
  simp [valid, isPoint, within, and_assoc]

/-- A net's bounds: of a system that passed Check, with or without Through's two more. -/
structure Ok (N : Nat) (bs : List Bd) : Prop where
  pos : 1 ≤ N
  top : N ≤ 128
  len : bs.length ≤ 2002
  each : ∀ b ∈ bs, (0 ≤ b.f ∧ b.f < N) ∧ (0 ≤ b.t ∧ b.t < N) ∧ (-1000000 ≤ b.m ∧ b.m ≤ 1000000)

theorem ok_of_check {N : Int} {bs : List Bd} (h : check N bs = 0) : Ok N.toNat bs ∧ (N.toNat : Int) = N := by
  unfold check at h
  split at h
  · cases h
  · split at h
    · cases h
    · split at h
      · rename_i h1 h2 h3
        refine ⟨⟨by omega, by omega, by omega, fun b hb => ?_⟩, by omega⟩
        have := valid_iff.1 (List.all_eq_true.1 h3 b hb)
        exact ⟨⟨this.1.1, by omega⟩, ⟨this.2.1.1, by omega⟩, this.2.2.2.1⟩
      · cases h

/-- Bound i (a bound of zeros beyond the end). -/
def bd (bs : List Bd) (i : Nat) : Bd := bs.getD i ⟨0, 0, 0, 0, false⟩
theorem bd_eq {bs : List Bd} {i : Nat} (h : i < bs.length) : bd bs i = bs[i] := by
  unfold bd
  simp [h]
theorem bd_mem {bs : List Bd} {i : Nat} (h : i < bs.length) : bd bs i ∈ bs := by
  rw [bd_eq h]
  exact List.getElem_mem h

/-- The first k bounds' indices of those that lead from p. -/
def idxk (bs : List Bd) (k p : Nat) : List Nat := (List.range k).filter fun i => decide ((bd bs i).f = p) && !(bd bs i).gone
def idx (bs : List Bd) (p : Nat) : List Nat := idxk bs bs.length p
theorem idxk_hit {bs : List Bd} {k p : Nat} (h : (bd bs k).f = p) (hg : (bd bs k).gone = false) : idxk bs (k + 1) p = idxk bs k p ++ [k] := by simp [idxk, List.range_succ, h, hg]
theorem idxk_miss {bs : List Bd} {k p : Nat} (h : (bd bs k).f ≠ p) : idxk bs (k + 1) p = idxk bs k p := by simp [idxk, List.range_succ, h]
theorem idxk_length (bs : List Bd) (k p : Nat) : (idxk bs k p).length ≤ k := by
  have := List.length_filter_le (fun i => decide ((bd bs i).f = p) && !(bd bs i).gone) (List.range k)
  simpa [idxk] using this
theorem idx_lt {bs : List Bd} {p i : Nat} (h : i ∈ idx bs p) : i < bs.length ∧ (bd bs i).f = p := by
  have h' : i < bs.length ∧ (bd bs i).f = p ∧ (bd bs i).gone = false := by simpa [idx, idxk] using h
  exact ⟨h'.1, h'.2.1⟩
/-- A system as it stands in memory: none of its bounds is gone. -/
structure Lv (bs : List Bd) : Prop where
  len : bs.length ≤ 1000000
  live : ∀ b ∈ bs, b.gone = false
theorem Lv.at_ {bs : List Bd} (h : Lv bs) {k : Nat} (hk : k < bs.length) : (bd bs k).gone = false := h.live _ (bd_mem hk)

/-! Distances: one bound, the bounds from one point, one round, rounds until they come to rest. -/
def relax (s : List Int × Bool) (b : Bd) : List Int × Bool :=
  if gt s.1 b.f.toNat + b.m < gt s.1 b.t.toNat then (s.1.set b.t.toNat (gt s.1 b.f.toNat + b.m), true) else s
def relaxL (bs : List Bd) (l : List Nat) (s : List Int × Bool) : List Int × Bool := l.foldl (fun s i => relax s (bd bs i)) s
def relaxP (bs : List Bd) (s : List Int × Bool) (p : Nat) : List Int × Bool := if gt s.1 p = NONE then s else relaxL bs (idx bs p) s
def roundF (bs : List Bd) (N : Nat) (s : List Int × Bool) : List Int × Bool := (List.range N).foldl (relaxP bs) s
def settleF (bs : List Bd) (N : Nat) : Nat → List Int → List Int × Bool
  | 0, d => (d, false)
  | k + 1, d => if (roundF bs N (d, false)).2 then settleF bs N k (roundF bs N (d, false)).1 else ((roundF bs N (d, false)).1, true)

theorem relaxL_nil (bs : List Bd) (s : List Int × Bool) : relaxL bs [] s = s := rfl
theorem relaxL_snoc (bs : List Bd) (l : List Nat) (i : Nat) (s : List Int × Bool) : relaxL bs (l ++ [i]) s = relax (relaxL bs l s) (bd bs i) := by simp [relaxL]
theorem roundF_succ (bs : List Bd) (k : Nat) (s : List Int × Bool) : roundF bs (k + 1) s = relaxP bs (roundF bs k s) k := by simp [roundF, List.range_succ]

/-- Each number is NONE or within K. -/
def Sm (K : Int) (d : List Int) : Prop := ∀ x ∈ d, x = NONE ∨ (-K ≤ x ∧ x ≤ K)
theorem Sm.mono {K K' : Int} {d : List Int} (h : Sm K d) (hK : K ≤ K') : Sm K' d := fun x hx => by
  rcases h x hx with e | e
  · exact .inl e
  · exact .inr ⟨by omega, by omega⟩
theorem Sm.at_ {K : Int} {d : List Int} (h : Sm K d) {k : Nat} (hk : k < d.length) : gt d k = NONE ∨ (-K ≤ gt d k ∧ gt d k ≤ K) := by
  rw [gt_eq hk]
  exact h _ (List.getElem_mem hk)
theorem Sm.set {K : Int} {d : List Int} (h : Sm K d) (k : Nat) {x : Int} (hx : x = NONE ∨ (-K ≤ x ∧ x ≤ K)) : Sm K (d.set k x) := fun y hy => by
  rcases List.mem_or_eq_of_mem_set hy with e | e
  · exact h y e
  · exact e ▸ hx

/-- What a round keeps: the length; the numbers are small, and no number that stood turns to NONE. -/
structure Inv (N : Nat) (K : Int) (d : List Int) (p : Nat) : Prop where
  len : d.length = 128
  small : Sm K d
  there : gt d p ≠ NONE

theorem relax_inv {bs : List Bd} {N : Nat} (hok : Ok N bs) {K : Int} {s : List Int × Bool} {p i : Nat} (hi : i ∈ idx bs p) (h : Inv N K s.1 p) (hK : K ≤ 1000000000000000000) : Inv N (K + 1000000) (relax s (bd bs i)).1 p := by
  obtain ⟨hil, hf⟩ := idx_lt hi
  have hb := hok.each _ (bd_mem hil)
  have hp : p < s.1.length := by have := h.len; have := hok.top; omega
  have h1 := (h.small.at_ hp).resolve_left h.there
  have hN : NONE = 9223372036854775807 := rfl
  have hv : -(K + 1000000) ≤ gt s.1 p + (bd bs i).m ∧ gt s.1 p + (bd bs i).m ≤ K + 1000000 := ⟨by omega, by omega⟩
  have e : (bd bs i).f.toNat = p := by omega
  unfold relax
  rw [e]
  split
  · refine ⟨by simp [h.len], (h.small.mono (by omega)).set _ (.inr hv), ?_⟩
    show gt (s.1.set _ _) p ≠ NONE
    rw [gt_set _ _ _ _ (by have := h.len; have := hok.top; omega)]
    split
    · omega
    · exact h.there
  · exact ⟨h.len, h.small.mono (by omega), h.there⟩

theorem relaxL_inv {bs : List Bd} {N : Nat} (hok : Ok N bs) {K : Int} {s : List Int × Bool} {p : Nat} (l : List Nat) (hl : ∀ i ∈ l, i ∈ idx bs p) (h : Inv N K s.1 p) (hK : K + 1000000 * l.length ≤ 1000000000000000000) :
    Inv N (K + 1000000 * l.length) (relaxL bs l s).1 p := by
  induction l generalizing s K with
  | nil => simpa [relaxL] using h
  | cons i l ih =>
    simp only [List.length_cons] at hK ⊢
    have h2 := relax_inv hok (hl i (by simp)) h (by omega)
    have h3 := ih (fun j hj => hl j (by simp [hj])) h2 (by omega)
    have e : K + 1000000 * ((l.length + 1 : Nat) : Int) = K + 1000000 + 1000000 * (l.length : Int) := by omega
    rw [e]
    exact h3

theorem relaxP_small {bs : List Bd} {N : Nat} (hok : Ok N bs) {K : Int} {s : List Int × Bool} {p : Nat} (hp : p < N) (h : s.1.length = 128 ∧ Sm K s.1) (h0 : 0 ≤ K) (hK : K + 2002000000 ≤ 1000000000000000000) :
    (relaxP bs s p).1.length = 128 ∧ Sm (K + 2002000000) (relaxP bs s p).1 := by
  unfold relaxP
  split
  · exact ⟨h.1, h.2.mono (by omega)⟩
  · rename_i hne
    have hlen : (idx bs p).length ≤ bs.length := idxk_length bs bs.length p
    have := hok.len
    have h1 := relaxL_inv hok (idx bs p) (fun i hi => hi) ⟨h.1, h.2, hne⟩ (by omega)
    exact ⟨h1.len, h1.small.mono (by omega)⟩

theorem roundF_small {bs : List Bd} {N : Nat} (hok : Ok N bs) {K : Int} {s : List Int × Bool} (k : Nat) (hk : k ≤ N) (h : s.1.length = 128 ∧ Sm K s.1) (h0 : 0 ≤ K) (hK : K ≤ 100000000000000000) :
    (roundF bs k s).1.length = 128 ∧ Sm (K + 2002000000 * k) (roundF bs k s).1 := by
  have ht := hok.top
  induction k with
  | zero => simpa [roundF] using h
  | succ k ih =>
    rw [roundF_succ]
    have h1 := relaxP_small (p := k) hok (by omega) (ih (by omega)) (by omega) (by omega)
    exact ⟨h1.1, h1.2.mono (by omega)⟩

end Go.Proofs.Yteiaofgkmgllcaa.Ln

namespace Go.Proofs.Yteiaofgkmgllcaa.Ln

theorem settleF_small {bs : List Bd} {N : Nat} (hok : Ok N bs) (r : Nat) {K : Int} {d : List Int} (hd : d.length = 128) (hs : Sm K d) (h0 : 0 ≤ K) (hK : K + 256256000000 * r ≤ 100000000000000000) :
    (settleF bs N r d).1.length = 128 ∧ Sm (K + 256256000000 * r) (settleF bs N r d).1 := by
  have ht := hok.top
  induction r generalizing d K with
  | zero => exact ⟨hd, by simpa [settleF] using hs⟩
  | succ r ih =>
    have h1 := roundF_small hok (s := (d, false)) N (Nat.le_refl _) ⟨hd, hs⟩ h0 (by omega)
    rw [settleF]
    split
    · have h2 := ih h1.1 h1.2 (by omega) (by omega)
      exact ⟨h2.1, h2.2.mono (by omega)⟩
    · exact ⟨h1.1, h1.2.mono (by omega)⟩

def consF (bs : List Bd) (N : Nat) : Bool := (settleF bs N N zeros).2
def distF (bs : List Bd) (N a : Nat) : List Int := (settleF bs N N (nones.set a 0)).1

theorem zeros_small : Sm 0 zeros := fun x hx => by
  have := (List.mem_replicate.1 hx).2
  exact .inr (by omega)
theorem nones_small : Sm 0 nones := fun x hx => .inl (List.mem_replicate.1 hx).2
theorem start_small (a : Nat) : Sm 0 (nones.set a 0) := nones_small.set a (.inr (by omega))
theorem start_length (a : Nat) : (nones.set a 0).length = 128 := by simp [nones_length]
theorem distF_small {bs : List Bd} {N : Nat} (hok : Ok N bs) (a : Nat) : (distF bs N a).length = 128 ∧ Sm 100000000000000 (distF bs N a) := by
  have ht := hok.top
  have := settleF_small hok N (start_length a) (start_small a) (by omega) (by omega)
  exact ⟨this.1, this.2.mono (by omega)⟩

/-- checkPoints. -/
def cpF (N : Int) (bs : List Bd) (ps : List Int) : Int := if check N bs = 0 then (if ps.all (isPoint N) then 0 else 1) else check N bs
theorem cpF_bad {N : Int} {bs : List Bd} {ps : List Int} (h : check N bs ≠ 0) : cpF N bs ps = check N bs := by rw [cpF, if_neg h]
theorem cpF_no {N : Int} {bs : List Bd} {ps : List Int} (h : check N bs = 0) {k : Nat} (hk : k < ps.length) (hp : isPoint N ps[k] = false) : cpF N bs ps = 1 := by
  rw [cpF, if_pos h, if_neg]
  intro ha
  rw [List.all_eq_true.1 ha _ (List.getElem_mem hk)] at hp
  cases hp
theorem cpF_ok {N : Int} {bs : List Bd} {ps : List Int} (h : check N bs = 0) (ha : (ps.take ps.length).all (isPoint N) = true) : cpF N bs ps = 0 := by
  rw [List.take_length] at ha
  rw [cpF, if_pos h, if_pos ha]
theorem cpF_zero {N : Int} {bs : List Bd} {ps : List Int} (h : cpF N bs ps = 0) : check N bs = 0 := by
  unfold cpF at h
  split at h
  · assumption
  · exact h

/-- The net of a system, or the error of one without. -/
def soundF (N : Int) (bs : List Bd) (ps : List Int) : Int := if cpF N bs ps = 0 then (if consF bs N.toNat then 0 else 10) else cpF N bs ps
def dF (N : Int) (bs : List Bd) (a b : Int) : Int := gt (distF bs N.toNat a.toNat) b.toNat
theorem pts_of {N : Int} {bs : List Bd} {ps : List Int} (h : cpF N bs ps = 0) {p : Int} (hp : p ∈ ps) : 0 ≤ p ∧ p < N := by
  have h0 := cpF_zero h
  rw [cpF, if_pos h0] at h
  split at h
  · rename_i ha
    have := List.all_eq_true.1 ha p hp
    simpa [isPoint] using this
  · cases h

/-- The ends of a range: the number, and whether it is there. -/
def lowF (v d : Int) : Int × Bool := if d = NONE then (0, false) else (v - d, true)
def highF (v d : Int) : Int × Bool := if d = NONE then (0, false) else (v + d, true)

/-- Between and Distance, errors and all. -/
def btF (N : Int) (bs : List Bd) (a b : Int) : (Int × Bool) × (Int × Bool) × Int := if soundF N bs [a, b] = 0 then (lowF 0 (dF N bs b a), highF 0 (dF N bs a b), 0) else ((0, false), (0, false), soundF N bs [a, b])
def diF (N : Int) (bs : List Bd) (a b : Int) : Int × Bool × Int := if soundF N bs [a, b] = 0 then (if dF N bs a b = NONE then (0, false, 0) else (dF N bs a b, true, 0)) else (0, false, soundF N bs [a, b])

/-! Paths with one bound more. -/
def lgS (d : List Int) (p : Nat) (o : List Int) (b : Bd) : List Int := if gt d b.t.toNat = NONE then o else o.set p (min (gt o p) (b.m + gt d b.t.toNat))
def lgL (bs : List Bd) (d : List Int) (p : Nat) (l : List Nat) (o : List Int) : List Int := l.foldl (fun o i => lgS d p o (bd bs i)) o
def lgF (bs : List Bd) (d : List Int) (N : Nat) : List Int := (List.range N).foldl (fun o p => lgL bs d p (idx bs p) o) nones
theorem lgL_nil (bs : List Bd) (d : List Int) (p : Nat) (o : List Int) : lgL bs d p [] o = o := rfl
theorem lgL_snoc (bs : List Bd) (d : List Int) (p : Nat) (l : List Nat) (i : Nat) (o : List Int) : lgL bs d p (l ++ [i]) o = lgS d p (lgL bs d p l o) (bd bs i) := by simp [lgL]
theorem lgF_succ (bs : List Bd) (d : List Int) (k : Nat) : lgF bs d (k + 1) = lgL bs d k (idx bs k) (lgF bs d k) := by simp [lgF, List.range_succ]

theorem lgS_small {bs : List Bd} {N : Nat} (hok : Ok N bs) {K : Int} {d o : List Int} {p i : Nat} (hp : p < 128) (hi : i < bs.length) (hd : d.length = 128) (hs : Sm K d) (h : o.length = 128 ∧ Sm (K + 1000000) o) :
    (lgS d p o (bd bs i)).length = 128 ∧ Sm (K + 1000000) (lgS d p o (bd bs i)) := by
  have hb := hok.each _ (bd_mem hi)
  have ht := hok.top
  unfold lgS
  split
  · exact h
  · rename_i hne
    have h1 := (hs.at_ (k := (bd bs i).t.toNat) (by omega)).resolve_left hne
    have h2 := h.2.at_ (k := p) (by omega)
    have hN : NONE = 9223372036854775807 := rfl
    refine ⟨by simp [h.1], h.2.set p ?_⟩
    rw [Int.min_def]
    split
    · exact h2
    · exact .inr ⟨by omega, by omega⟩
theorem lgL_small {bs : List Bd} {N : Nat} (hok : Ok N bs) {K : Int} {d o : List Int} {p : Nat} (hp : p < 128) (hd : d.length = 128) (hs : Sm K d) (l : List Nat) (hl : ∀ i ∈ l, i < bs.length) (h : o.length = 128 ∧ Sm (K + 1000000) o) :
    (lgL bs d p l o).length = 128 ∧ Sm (K + 1000000) (lgL bs d p l o) := by
  induction l generalizing o with
  | nil => exact h
  | cons i l ih => exact ih (fun j hj => hl j (by simp [hj])) (lgS_small hok hp (hl i (by simp)) hd hs h)
theorem lgF_small {bs : List Bd} {N : Nat} (hok : Ok N bs) {K : Int} {d : List Int} (hd : d.length = 128) (hs : Sm K d) (h0 : 0 ≤ K) (k : Nat) (hk : k ≤ N) : (lgF bs d k).length = 128 ∧ Sm (K + 1000000) (lgF bs d k) := by
  have ht := hok.top
  induction k with
  | zero => exact ⟨nones_length, nones_small.mono (by omega)⟩
  | succ k ih =>
    rw [lgF_succ]
    exact lgL_small hok (by omega) hd hs _ (fun i hi => (idx_lt hi).1) (ih (by omega))

/-! Values, and the first bound that they do not keep. -/
def areV (N : Int) (y : List Int) : Bool := (decide ((y.length : Int) = N) && (decide (0 < y.length) && decide (gt y 0 = 0))) && y.all (fun v => within v 400000000)
def brkP (bs : List Bd) (y : List Int) (i : Nat) : Bool := decide ((bd bs i).m < gt y (bd bs i).t.toNat - gt y (bd bs i).f.toNat)
def brk (bs : List Bd) (y : List Int) : Option Nat := (List.range bs.length).find? (brkP bs y)
def keptF (N : Int) (bs : List Bd) (y : List Int) : Int × Bool × Int :=
  if check N bs = 0 then (if areV N y = true then (match brk bs y with | some i => ((i : Int), false, 0) | none => (0, true, 0)) else (0, false, 1)) else (0, false, check N bs)
theorem brk_some {bs : List Bd} {y : List Int} {k : Nat} (hk : k < bs.length) (h : ∀ j, j < k → brkP bs y j = false) (hp : brkP bs y k = true) : brk bs y = some k := by
  rw [brk, List.find?_range_eq_some]
  exact ⟨hp, by simpa using hk, fun j hj => by simp [h j hj]⟩
theorem brk_none {bs : List Bd} {y : List Int} (h : ∀ j, j < bs.length → brkP bs y j = false) : brk bs y = none := by
  rw [brk, List.find?_range_eq_none]
  exact fun j hj => by simp [h j hj]
theorem areV_spec {N : Int} {y : List Int} (h : areV N y = true) : (y.length : Int) = N ∧ ∀ k, k < y.length → -400000000 ≤ gt y k ∧ gt y k ≤ 400000000 := by
  simp only [areV, Bool.and_eq_true, decide_eq_true_eq, List.all_eq_true] at h
  refine ⟨h.1.1, fun k hk => ?_⟩
  have := h.2 (gt y k) (by rw [gt_eq hk]; exact List.getElem_mem hk)
  simpa [within] using this

end Go.Proofs.Yteiaofgkmgllcaa.Ln

namespace Go.Proofs.Yteiaofgkmgllcaa.Ln

def belowF (e f : Int × Bool) : Bool := e.2 && (!f.2 || decide (e.1 < f.1))
def aboveF (e f : Int × Bool) : Bool := e.2 && (!f.2 || decide (f.1 < e.1))
def meetsF (e f : Int × Bool) : Bool := e.2 && f.2 && decide (e.1 = f.1)
def maxI (a b : Int) : Int := if a < b then b else a
def lfzF (l h : Int × Bool) : Int := let v := if l.2 then max 0 l.1 else 0; if h.2 then min v h.1 else v

def cmpI (a b : Int) : Int := if a < b then -1 else if b < a then 1 else 0
def cmpL : List Int → List Int → Int
  | [], [] => 0
  | [], _ :: _ => -1
  | _ :: _, [] => 1
  | x :: a, y :: b => if cmpI x y = 0 then cmpL a b else cmpI x y
def clF (a b : List Int) : Int := if cmpI a.length b.length = 0 then cmpL a b else cmpI a.length b.length

/-! All distances, row behind row. -/
theorem gt_append_left {a b : List Int} {k : Nat} (h : k < a.length) : gt (a ++ b) k = gt a k := by
  unfold gt
  rw [List.getD_eq_getElem?_getD, List.getD_eq_getElem?_getD, List.getElem?_append_left h]
theorem gt_append_right {a b : List Int} {k : Nat} (h : a.length ≤ k) : gt (a ++ b) k = gt b (k - a.length) := by
  unfold gt
  simp [List.getD_eq_getElem?_getD, List.getElem?_append_right h]
theorem flat_length (f : Nat → List Int) (k : Nat) (h : ∀ a, (f a).length = 128) : ((List.range k).flatMap f).length = k * 128 := by
  induction k with
  | zero => rfl
  | succ k ih => rw [List.range_succ, List.flatMap_append, List.length_append, ih]; simp [h]; omega
theorem flat_at (f : Nat → List Int) (N : Nat) (h : ∀ a, (f a).length = 128) {a p : Nat} (ha : a < N) (hp : p < 128) : gt ((List.range N).flatMap f) (a * 128 + p) = gt (f a) p := by
  induction N with
  | zero => omega
  | succ N ih =>
    rw [List.range_succ, List.flatMap_append]
    have hl := flat_length f N h
    by_cases e : a < N
    · rw [gt_append_left (by rw [hl]; omega), ih e]
    · obtain rfl : a = N := by omega
      rw [gt_append_right (by rw [hl]; omega), hl]
      simp only [List.flatMap_cons, List.flatMap_nil, List.append_nil]
      congr 1
      omega
def adF (bs : List Bd) (N : Nat) : List Int := (List.range N).flatMap (distF bs N)
def adA (bs : List Bd) (N k : Nat) : List Int := (List.range k).flatMap (distF bs N)
def zerosN (n : Nat) : List Int := List.replicate n 0
theorem zerosN_length (n : Nat) : (zerosN n).length = n := by simp [zerosN]
theorem zerosN_add (a b : Nat) : zerosN (a + b) = zerosN a ++ zerosN b := by simp [zerosN]
theorem adA_length {bs : List Bd} {N : Nat} (hok : Ok N bs) (k : Nat) : (adA bs N k).length = k * 128 := flat_length _ _ (fun a => (distF_small hok a).1)
theorem adA_succ (bs : List Bd) (N k : Nat) : adA bs N (k + 1) = adA bs N k ++ distF bs N k := by simp [adA, List.range_succ]
theorem adF_length {bs : List Bd} {N : Nat} (hok : Ok N bs) : (adF bs N).length = N * 128 := adA_length hok N
theorem adF_at {bs : List Bd} {N : Nat} (hok : Ok N bs) {a p : Nat} (ha : a < N) (hp : p < 128) : gt (adF bs N) (a * 128 + p) = gt (distF bs N a) p := flat_at _ _ (fun a => (distF_small hok a).1) ha hp

/-! What the value of a point can be with those that are given. -/
def possS (D y : List Int) (p : Nat) (s : (Int × Bool) × (Int × Bool)) (g : Nat) : (Int × Bool) × (Int × Bool) :=
  (if aboveF (lowF (gt y g) (gt D (p * 128 + g))) s.1 then lowF (gt y g) (gt D (p * 128 + g)) else s.1, if belowF (highF (gt y g) (gt D (g * 128 + p))) s.2 then highF (gt y g) (gt D (g * 128 + p)) else s.2)
def possF (D y : List Int) (p : Nat) (gs : List Nat) : (Int × Bool) × (Int × Bool) := gs.foldl (possS D y p) ((0, false), (0, false))
theorem possF_step (D y : List Int) (p : Nat) {gs : List Nat} {k : Nat} (hk : k < gs.length) : possF D y p (gs.take (k + 1)) = possS D y p (possF D y p (gs.take k)) gs[k] := by
  rw [List.take_succ_eq_append_getElem hk, possF, List.foldl_append]
  rfl

end Go.Proofs.Yteiaofgkmgllcaa.Ln

namespace Go.Proofs.Yteiaofgkmgllcaa.Ln

def gvl (row : List Int) (k : Nat) : List Nat := (List.range k).filter (fun p => decide (gt row p ≠ NONE))
def opn (row : List Int) (k : Nat) : List Nat := (List.range k).filter (fun p => decide (gt row p = NONE))
def y1 (row : List Int) (k : Nat) : List Int := (List.range k).map (fun p => if gt row p = NONE then 0 else gt row p)
def valS (D : List Int) (s : List Int × List Nat) (p : Nat) : List Int × List Nat := (s.1.set p (lfzF (possF D s.1 p s.2).1 (possF D s.1 p s.2).2), s.2 ++ [p])
def valK (D : List Int) (s : List Int × List Nat) (l : List Nat) : List Int × List Nat := l.foldl (valS D) s
def valF (bs : List Bd) (N : Nat) : List Int := (valK (adF bs N) (y1 (distF bs N 0) N, gvl (distF bs N 0) N) (opn (distF bs N 0) N)).1

theorem gvl_some {row : List Int} {k : Nat} (h : gt row k ≠ NONE) : gvl row (k + 1) = gvl row k ++ [k] := by simp [gvl, List.range_succ, h]
theorem gvl_none {row : List Int} {k : Nat} (h : gt row k = NONE) : gvl row (k + 1) = gvl row k := by simp [gvl, List.range_succ, h]
theorem opn_some {row : List Int} {k : Nat} (h : gt row k ≠ NONE) : opn row (k + 1) = opn row k := by simp [opn, List.range_succ, h]
theorem opn_none {row : List Int} {k : Nat} (h : gt row k = NONE) : opn row (k + 1) = opn row k ++ [k] := by simp [opn, List.range_succ, h]
theorem y1_some {row : List Int} {k : Nat} (h : gt row k ≠ NONE) : y1 row (k + 1) = y1 row k ++ [gt row k] := by simp [y1, List.range_succ, h]
theorem y1_none {row : List Int} {k : Nat} (h : gt row k = NONE) : y1 row (k + 1) = y1 row k ++ [0] := by simp [y1, List.range_succ, h]
theorem y1_length (row : List Int) (k : Nat) : (y1 row k).length = k := by simp [y1]
theorem gvl_lt {row : List Int} {k g : Nat} (h : g ∈ gvl row k) : g < k := by
  simp [gvl] at h
  exact h.1
theorem opn_lt {row : List Int} {k g : Nat} (h : g ∈ opn row k) : g < k := by
  simp [opn] at h
  exact h.1
theorem gvl_length (row : List Int) (k : Nat) : (gvl row k).length ≤ k := by
  have := List.length_filter_le (fun p => decide (gt row p ≠ NONE)) (List.range k)
  simpa [gvl] using this
theorem opn_length (row : List Int) (k : Nat) : (opn row k).length ≤ k := by
  have := List.length_filter_le (fun p => decide (gt row p = NONE)) (List.range k)
  simpa [opn] using this
theorem valK_step (D : List Int) (s : List Int × List Nat) {l : List Nat} {k : Nat} (hk : k < l.length) : valK D s (l.take (k + 1)) = valS D (valK D s (l.take k)) l[k] := by
  rw [List.take_succ_eq_append_getElem hk, valK, List.foldl_append]
  rfl

def Cl (M : Int) (y : List Int) : Prop := ∀ k, -M ≤ gt y k ∧ gt y k ≤ M
def Tm (K : Int) (d : List Int) : Prop := ∀ k, gt d k = NONE ∨ (-K ≤ gt d k ∧ gt d k ≤ K)
theorem Cl.mono {M M' : Int} {y : List Int} (h : Cl M y) (hM : M ≤ M') : Cl M' y := fun k => by
  have := h k
  omega
theorem gt_far {d : List Int} {k : Nat} (h : d.length ≤ k) : gt d k = 0 := by simp [gt, h]
theorem Sm.tm {K : Int} {d : List Int} (h : Sm K d) (h0 : 0 ≤ K) : Tm K d := fun k => by
  by_cases hk : k < d.length
  · exact h.at_ hk
  · exact .inr (by rw [gt_far (by omega)]; omega)
theorem adF_tm {bs : List Bd} {N : Nat} (hok : Ok N bs) : Tm 100000000000000 (adF bs N) := fun k => by
  by_cases hk : k < N * 128
  · have h1 : k / 128 < N := by omega
    have h2 : k % 128 < 128 := Nat.mod_lt _ (by omega)
    have h3 : k = k / 128 * 128 + k % 128 := by omega
    rw [h3, adF_at hok h1 h2]
    exact (distF_small hok _).2.tm (by omega) _
  · exact .inr (by rw [gt_far (by rw [adF_length hok]; omega)]; omega)
theorem y1_cl {row : List Int} {K : Int} (h : Tm K row) (h0 : 0 ≤ K) (k : Nat) : Cl K (y1 row k) := fun j => by
  by_cases hj : j < k
  · rw [gt_eq (by rw [y1_length]; exact hj)]
    simp only [y1, List.getElem_map, List.getElem_range]
    split
    · omega
    · rename_i hne
      exact (h j).resolve_left hne
  · rw [gt_far (by rw [y1_length]; omega)]
    omega

theorem lowF_cl {M K v d : Int} (hv : -M ≤ v ∧ v ≤ M) (hd : d = NONE ∨ (-K ≤ d ∧ d ≤ K)) (h0 : 0 ≤ M + K) : -(M + K) ≤ (lowF v d).1 ∧ (lowF v d).1 ≤ M + K := by
  unfold lowF
  split
  · exact ⟨by omega, h0⟩
  · rename_i hne
    have := hd.resolve_left hne
    exact ⟨by show -(M + K) ≤ v - d; omega, by show v - d ≤ M + K; omega⟩
theorem highF_cl {M K v d : Int} (hv : -M ≤ v ∧ v ≤ M) (hd : d = NONE ∨ (-K ≤ d ∧ d ≤ K)) (h0 : 0 ≤ M + K) : -(M + K) ≤ (highF v d).1 ∧ (highF v d).1 ≤ M + K := by
  unfold highF
  split
  · exact ⟨by omega, h0⟩
  · rename_i hne
    have := hd.resolve_left hne
    exact ⟨by show -(M + K) ≤ v + d; omega, by show v + d ≤ M + K; omega⟩
theorem possF_cl {M K : Int} {D y : List Int} (hy : Cl M y) (hD : Tm K D) (h0 : 0 ≤ M + K) (p : Nat) (gs : List Nat) :
    (-(M + K) ≤ (possF D y p gs).1.1 ∧ (possF D y p gs).1.1 ≤ M + K) ∧ (-(M + K) ≤ (possF D y p gs).2.1 ∧ (possF D y p gs).2.1 ≤ M + K) := by
  unfold possF
  have : ∀ (s : (Int × Bool) × (Int × Bool)), ((-(M + K) ≤ s.1.1 ∧ s.1.1 ≤ M + K) ∧ (-(M + K) ≤ s.2.1 ∧ s.2.1 ≤ M + K)) →
      ((-(M + K) ≤ (gs.foldl (possS D y p) s).1.1 ∧ (gs.foldl (possS D y p) s).1.1 ≤ M + K) ∧ (-(M + K) ≤ (gs.foldl (possS D y p) s).2.1 ∧ (gs.foldl (possS D y p) s).2.1 ≤ M + K)) := by
    induction gs with
    | nil => exact fun s h => h
    | cons g gs ih =>
      intro s h
      refine ih _ ?_
      unfold possS
      refine ⟨?_, ?_⟩
      · dsimp only
        split
        · exact lowF_cl (hy g) (hD _) h0
        · exact h.1
      · dsimp only
        split
        · exact highF_cl (hy g) (hD _) h0
        · exact h.2
  exact this _ ⟨⟨by show -(M + K) ≤ 0; omega, h0⟩, ⟨by show -(M + K) ≤ 0; omega, h0⟩⟩
theorem lfzF_cl {C : Int} {l h : Int × Bool} (hl : -C ≤ l.1 ∧ l.1 ≤ C) (hh : -C ≤ h.1 ∧ h.1 ≤ C) (h0 : 0 ≤ C) : -C ≤ lfzF l h ∧ lfzF l h ≤ C := by
  unfold lfzF
  rcases l with ⟨a, _ | _⟩ <;> rcases h with ⟨b, _ | _⟩ <;> simp only [if_true, if_false, Bool.false_eq_true] at * <;> omega
theorem valS_cl {M K : Int} {D : List Int} {s : List Int × List Nat} (hy : Cl M s.1) (hD : Tm K D) (hM : 0 ≤ M) (hK : 0 ≤ K) (p : Nat) : Cl (M + K) (valS D s p).1 := fun k => by
  have hb := possF_cl hy hD (by omega) p s.2
  have hv := lfzF_cl hb.1 hb.2 (by omega)
  unfold valS
  dsimp only
  by_cases hp : p < s.1.length
  · rw [gt_set _ _ _ _ hp]
    split
    · exact hv
    · have := hy k
      omega
  · rw [List.set_eq_of_length_le (by omega)]
    have := hy k
    omega
theorem valK_cl {M K : Int} {D : List Int} {s : List Int × List Nat} (hy : Cl M s.1) (hD : Tm K D) (hM : 0 ≤ M) (hK : 0 ≤ K) (l : List Nat) : Cl (M + K * l.length) (valK D s l).1 := by
  induction l generalizing s M with
  | nil => simpa [valK] using hy
  | cons p l ih =>
    have := ih (valS_cl hy hD hM hK p) (by omega)
    rw [show M + K * ((p :: l).length : Int) = M + K + K * l.length from by rw [List.length_cons]; push_cast; rw [Int.mul_add]; omega]
    exact this
theorem valK_length (D : List Int) (s : List Int × List Nat) (l : List Nat) : (valK D s l).1.length = s.1.length ∧ (valK D s l).2.length = s.2.length + l.length := by
  induction l generalizing s with
  | nil => exact ⟨rfl, rfl⟩
  | cons p l ih =>
    have := ih (valS D s p)
    simp only [valS, List.length_set, List.length_append, List.length_cons, List.length_nil] at this
    refine ⟨this.1, this.2.trans ?_⟩
    simp only [List.length_cons]
    omega
theorem valK_mem {D : List Int} {s : List Int × List Nat} {l : List Nat} {N : Nat} (hs : ∀ g ∈ s.2, g < N) (hl : ∀ g ∈ l, g < N) : ∀ g ∈ (valK D s l).2, g < N := by
  induction l generalizing s with
  | nil => exact hs
  | cons p l ih =>
    refine ih (s := valS D s p) (fun g hg => ?_) (fun g hg => hl g (by simp [hg]))
    simp only [valS, List.mem_append, List.mem_singleton] at hg
    rcases hg with h | rfl
    · exact hs g h
    · exact hl _ (by simp)

theorem valF_length (bs : List Bd) (N : Nat) : (valF bs N).length = N := by
  unfold valF
  rw [(valK_length _ _ _).1]
  exact y1_length _ _
def someF (N : Int) (bs : List Bd) : List Int × Int := if soundF N bs [] = 0 then (valF bs N.toNat, 0) else ([], soundF N bs [])

end Go.Proofs.Yteiaofgkmgllcaa.Ln

namespace Go.Proofs.Yteiaofgkmgllcaa.Ln

theorem dead_ok {N : Nat} {bs : List Bd} (hok : Ok N bs) {l : List Bd} (hl : ∀ b ∈ l, (0 ≤ b.f ∧ b.f < N) ∧ (0 ≤ b.t ∧ b.t < N) ∧ (-1000000 ≤ b.m ∧ b.m ≤ 1000000)) (hlen : bs.length + l.length ≤ 2002) : Ok N (bs ++ l) :=
  ⟨hok.pos, hok.top, by rw [List.length_append]; exact hlen, fun b hb => by
    rcases List.mem_append.1 hb with h | h
    · exact hok.each b h
    · exact hl b h⟩

/-! Rows: the least sums of paths to b with exactly k bounds. -/
def rowF (bs : List Bd) (N b : Nat) : Nat → List Int
  | 0 => nones.set b 0
  | k + 1 => lgF bs (rowF bs N b k) N
theorem rowF_small {bs : List Bd} {N : Nat} (hok : Ok N bs) (b k : Nat) : (rowF bs N b k).length = 128 ∧ Sm (1000000 * k) (rowF bs N b k) := by
  induction k with
  | zero => exact ⟨start_length b, (start_small b).mono (by omega)⟩
  | succ k ih =>
    have h := lgF_small hok ih.1 ih.2 (by omega) N (Nat.le_refl _)
    exact ⟨h.1, h.2.mono (by omega)⟩

/-- The first number of bounds (of 0 to longest) with a path from a to b of a sum of at most most. -/
def fpP (bs : List Bd) (N a b : Nat) (most : Int) (k : Nat) : Bool := decide (gt (rowF bs N b k) a ≤ most)
def fpM (bs : List Bd) (N a b : Nat) (most : Int) (longest : Nat) : Option Nat := (List.range (longest + 1)).find? (fpP bs N a b most)
theorem fpM_some {bs : List Bd} {N a b : Nat} {most : Int} {longest k : Nat} (hk : k ≤ longest) (h : ∀ j, j < k → fpP bs N a b most j = false) (hp : fpP bs N a b most k = true) : fpM bs N a b most longest = some k := by
  rw [fpM, List.find?_range_eq_some]
  exact ⟨hp, by simpa using Nat.lt_succ_of_le hk, fun j hj => by simp [h j hj]⟩
theorem fpM_none {bs : List Bd} {N a b : Nat} {most : Int} {longest : Nat} (h : ∀ j, j ≤ longest → fpP bs N a b most j = false) : fpM bs N a b most longest = none := by
  rw [fpM, List.find?_range_eq_none]
  exact fun j hj => by simp [h j (by omega)]

/-- Whether bound i can be the next one, where d has the least sums of the rest. -/
def okP (bs : List Bd) (d : List Int) (most : Int) (i : Nat) : Bool := !decide (gt d (bd bs i).t.toNat = NONE) && decide ((bd bs i).m + gt d (bd bs i).t.toNat ≤ most)
def wkF (bs : List Bd) (R : Nat → List Int) : Nat → Nat → Int → List Nat
  | 0, _, _ => []
  | l + 1, p, most => match (idx bs p).find? (okP bs (R l) most) with
    | none => []
    | some i => i :: wkF bs R l (bd bs i).t.toNat (most - (bd bs i).m)
theorem wkF_none {bs : List Bd} {R : Nat → List Int} {l p : Nat} {most : Int} (h : (idx bs p).find? (okP bs (R l) most) = none) : wkF bs R (l + 1) p most = [] := by rw [wkF, h]
theorem wkF_some {bs : List Bd} {R : Nat → List Int} {l p i : Nat} {most : Int} (h : (idx bs p).find? (okP bs (R l) most) = some i) : wkF bs R (l + 1) p most = i :: wkF bs R l (bd bs i).t.toNat (most - (bd bs i).m) := by rw [wkF, h]
theorem wkF_lt {bs : List Bd} {R : Nat → List Int} (l p : Nat) (most : Int) : ∀ i ∈ wkF bs R l p most, i < bs.length := by
  induction l generalizing p most with
  | zero => intro i hi; cases hi
  | succ l ih =>
    intro i hi
    rcases h : (idx bs p).find? (okP bs (R l) most) with _ | k
    · rw [wkF_none h] at hi; cases hi
    · rw [wkF_some h] at hi
      rcases List.mem_cons.1 hi with rfl | hi
      · exact (idx_lt (List.mem_of_find?_eq_some h)).1
      · exact ih _ _ i hi
theorem wkF_length {bs : List Bd} {R : Nat → List Int} (l p : Nat) (most : Int) : (wkF bs R l p most).length ≤ l := by
  induction l generalizing p most with
  | zero => exact Nat.le_refl _
  | succ l ih =>
    rcases h : (idx bs p).find? (okP bs (R l) most) with _ | k
    · rw [wkF_none h]; exact Nat.zero_le _
    · rw [wkF_some h]; exact Nat.succ_le_succ (ih _ _)

def fpF (bs : List Bd) (N a b : Nat) (most : Int) (longest : Nat) : List Nat × Bool :=
  match fpM bs N a b most longest with
  | none => ([], false)
  | some k => (wkF bs (rowF bs N b) k a most, true)

/-- Path, errors and all. -/
def paF (N : Int) (bs : List Bd) (a b : Int) : List Nat × Int :=
  if soundF N bs [a, b] = 0 then (if dF N bs a b = NONE then ([], 5) else ((fpF bs N.toNat a.toNat b.toNat (dF N bs a b) N.toNat).1, 0)) else ([], soundF N bs [a, b])

/-- Through, errors and all. -/
def tieL (p v : Int) : List Bd := [⟨0, p, v, 0, false⟩, ⟨p, 0, -v, 0, false⟩]
def thF (N : Int) (bs : List Bd) (p v : Int) : List Int × Bool × Int :=
  if cpF N bs [p] = 0 then (if within v 1000000 = true then (if consF (bs ++ tieL p v) N.toNat = true then (valF (bs ++ tieL p v) N.toNat, true, 0) else ([], false, 0)) else ([], false, 1)) else ([], false, cpF N bs [p])
theorem tie_ok {N : Int} {bs : List Bd} {p v : Int} (hc : cpF N bs [p] = 0) (hv : within v 1000000 = true) : Ok N.toNat (bs ++ tieL p v) := by
  have h0 := cpF_zero hc
  obtain ⟨hok, hN⟩ := ok_of_check h0
  have hp := pts_of hc (p := p) (by simp)
  have hv' : -1000000 ≤ v ∧ v ≤ 1000000 := by simpa [within] using hv
  have hl : bs.length ≤ 2000 := by
    unfold check at h0
    split at h0
    · cases h0
    · omega
  refine dead_ok hok (fun b hb => ?_) (by simp [tieL]; omega)
  have hpos := hok.pos
  simp only [tieL, List.mem_cons, List.not_mem_nil, or_false] at hb
  rcases hb with rfl | rfl <;> exact ⟨⟨by simp; try omega, by simp; try omega⟩, ⟨by simp; try omega, by simp; try omega⟩, by simp; omega, by simp; omega⟩
theorem tie_lv {bs : List Bd} (h : Lv bs) (hl : bs.length ≤ 2000) (p v : Int) : Lv (bs ++ tieL p v) := by
  refine ⟨by simp [tieL]; omega, fun b hb => ?_⟩
  rcases List.mem_append.1 hb with hb | hb
  · exact h.live b hb
  · simp only [tieL, List.mem_cons, List.not_mem_nil, or_false] at hb
    rcases hb with rfl | rfl <;> rfl

end Go.Proofs.Yteiaofgkmgllcaa.Ln

namespace Go.Proofs.Yteiaofgkmgllcaa.Ln

def zl (l : List Nat) : List Int := List.map (fun n : Nat => (n : Int)) l
theorem zl_length (l : List Nat) : (zl l).length = l.length := by simp [zl]

theorem fpF_len (bs : List Bd) (N a b : Nat) (most : Int) (longest : Nat) : (fpF bs N a b most longest).1.length ≤ longest := by
  unfold fpF
  split
  · exact Nat.zero_le _
  · rename_i k hk
    have h1 := wkF_length (bs := bs) (R := rowF bs N b) k a most
    have h2 : k < longest + 1 := by simpa using List.mem_of_find?_eq_some hk
    simp only
    omega
theorem fpF_lt (bs : List Bd) (N a b : Nat) (most : Int) (longest : Nat) : ∀ i ∈ (fpF bs N a b most longest).1, i < bs.length := by
  unfold fpF
  split
  · intro i hi; cases hi
  · exact wkF_lt _ _ _

/-! The first of the shortest negative circles. -/
def circS (bs : List Bd) (N : Nat) (s : List Nat × Nat) (p : Nat) : List Nat × Nat :=
  if (fpF bs N p p (-1) s.2).2 = true ∧ (s.1 = [] ∨ clF (zl (fpF bs N p p (-1) s.2).1) (zl s.1) < 0) then ((fpF bs N p p (-1) s.2).1, (fpF bs N p p (-1) s.2).1.length) else s
def circK (bs : List Bd) (N k : Nat) : List Nat × Nat := (List.range k).foldl (circS bs N) ([], N)
def circF (bs : List Bd) (N : Nat) : List Nat := (circK bs N N).1
theorem circK_succ (bs : List Bd) (N k : Nat) : circK bs N (k + 1) = circS bs N (circK bs N k) k := by simp [circK, List.range_succ]
theorem circK_top {bs : List Bd} {N : Nat} (k : Nat) : (circK bs N k).2 ≤ N ∧ (circK bs N k).1.length ≤ N ∧ ∀ i ∈ (circK bs N k).1, i < bs.length := by
  induction k with
  | zero => exact ⟨Nat.le_refl _, Nat.zero_le _, fun i hi => by cases hi⟩
  | succ k ih =>
    rw [circK_succ, circS]
    split
    · have := fpF_len bs N k k (-1) (circK bs N k).2
      exact ⟨Nat.le_trans this ih.1, Nat.le_trans this ih.1, fpF_lt _ _ _ _ _ _⟩
    · exact ih
/-- Circle, errors and all. -/
def ciF (N : Int) (bs : List Bd) : List Nat × Bool × Int :=
  if check N bs = 0 then (if consF bs N.toNat = true then ([], false, 0) else (circF bs N.toNat, true, 0)) else ([], false, check N bs)

def joinF (N : Int) (bs : List Bd) (M : Int) (cs : List Bd) : (Int × List Bd) × Int :=
  if check N bs = 0 then (if check M cs = 0 then (if N = M then (if bs.length + cs.length ≤ 2000 then ((N, bs ++ cs), 0) else ((0, []), 2)) else ((0, []), 1)) else ((0, []), check M cs)) else ((0, []), check N bs)

end Go.Proofs.Yteiaofgkmgllcaa.Ln

