/-
  Plain functions that answer what package line's functions answer; no program is named here.
-/
set_option linter.unusedVariables false
set_option linter.unusedSimpArgs false
namespace Go.Proofs.Ytnmiecnpiadcnaa.Ln

structure Bd where
  f : Int
  t : Int
  m : Int
  r : Int
  /-- No bound of a system is 'gone'; Needless takes bounds out of its net's lists, and leaves them in the system. -/
  gone : Bool := false
deriving DecidableEq

/-- It stands where there is no path. -/
def NONE : Int := 9223372036854775807
theorem NONE_eq : NONE = 9223372036854775807 := rfl

/-- What a list holds at a place (0 beyond its end). -/
def gt (d : List Int) (k : Nat) : Int := d.getD k 0
theorem gt_set (d : List Int) (k j : Nat) (x : Int) (hk : k < d.length) : gt (d.set k x) j = if j = k then x else gt d j := by
  unfold gt
  by_cases h : j = k
  · subst h
    simp [hk]
  · rw [if_neg h]
    simp [show ¬ k = j from fun e => h e.symm]
theorem gt_eq {d : List Int} {k : Nat} (hk : k < d.length) : gt d k = d[k] := by
  unfold gt
  simp [hk]

def zeros : List Int := List.replicate 128 0
def nones : List Int := List.replicate 128 NONE
def fill (k : Nat) : List Int := List.replicate k NONE ++ List.replicate (128 - k) 0
theorem zeros_length : zeros.length = 128 := by simp [zeros]
theorem nones_length : nones.length = 128 := by simp [nones]
theorem fill_length {k : Nat} (h : k ≤ 128) : (fill k).length = 128 := by simp [fill]; omega
theorem fill_zero : fill 0 = zeros := rfl
theorem fill_all : fill 128 = nones := by simp [fill, nones]
theorem fill_next (k : Nat) (hk : k < 128) : (fill k).set k 9223372036854775807 = fill (k + 1) := by
  unfold fill
  rw [show (9223372036854775807 : Int) = NONE from rfl]
  generalize NONE = x
  apply List.ext_getElem?
  intro i
  simp only [List.getElem?_set, List.getElem?_append, List.length_append, List.length_replicate, List.getElem?_replicate]
  by_cases h1 : i < k
  · simp [h1, show ¬ k = i by omega, show i < k + 1 by omega]
  · by_cases h2 : k = i
    · subst h2
      simp [show k < k + (128 - k) by omega]
    · simp [h1, h2, show ¬ i < k + 1 by omega, show (i - k < 128 - k) = (i - (k + 1) < 128 - (k + 1)) by simp; omega]

def isPoint (n p : Int) : Bool := decide (0 ≤ p) && decide (p < n)
def within (x most : Int) : Bool := decide (-most ≤ x) && decide (x ≤ most)
def valid (n : Int) (b : Bd) : Bool :=
  isPoint n b.f && (isPoint n b.t && (!(b.f == b.t) && (within b.m 1000000 && (decide (0 ≤ b.r) && decide (b.r ≤ 1000000)))))

def check (N : Int) (bs : List Bd) : Int :=
  if 128 < N ∨ 2000 < bs.length then 2 else if N < 1 then 1 else if bs.all (valid N) then 0 else 1

theorem valid_iff {n : Int} {b : Bd} : valid n b = true ↔ (0 ≤ b.f ∧ b.f < n) ∧ (0 ≤ b.t ∧ b.t < n) ∧ b.f ≠ b.t ∧ (-1000000 ≤ b.m ∧ b.m ≤ 1000000) ∧ 0 ≤ b.r ∧ b.r ≤ 1000000 := by
  simp [valid, isPoint, within, and_assoc]

/-- A net's bounds: of a system that passed Check, with or without Through's two more. -/
structure Ok (N : Nat) (bs : List Bd) : Prop where
  pos : 1 ≤ N
  top : N ≤ 128
  len : bs.length ≤ 2002
  each : ∀ b ∈ bs, (0 ≤ b.f ∧ b.f < N) ∧ (0 ≤ b.t ∧ b.t < N) ∧ (-1000000 ≤ b.m ∧ b.m ≤ 1000000)

theorem ok_of_check {N : Int} {bs : List Bd} (h : check N bs = 0) : Ok N.toNat bs ∧ (N.toNat : Int) = N := by
  unfold check at h
  split at h
  · cases h
  · split at h
    · cases h
    · split at h
      · rename_i h1 h2 h3
        refine ⟨⟨by omega, by omega, by omega, fun b hb => ?_⟩, by omega⟩
        have := valid_iff.1 (List.all_eq_true.1 h3 b hb)
        exact ⟨⟨this.1.1, by omega⟩, ⟨this.2.1.1, by omega⟩, this.2.2.2.1⟩
      · cases h

/-- Bound i (a bound of zeros beyond the end). -/
def bd (bs : List Bd) (i : Nat) : Bd := bs.getD i ⟨0, 0, 0, 0, false⟩
theorem bd_eq {bs : List Bd} {i : Nat} (h : i < bs.length) : bd bs i = bs[i] := by
  unfold bd
  simp [h]
theorem bd_mem {bs : List Bd} {i : Nat} (h : i < bs.length) : bd bs i ∈ bs := by
  rw [bd_eq h]
  exact List.getElem_mem h

/-- The first k bounds' indices of those that lead from p. -/
def idxk (bs : List Bd) (k p : Nat) : List Nat := (List.range k).filter fun i => decide ((bd bs i).f = p) && !(bd bs i).gone
def idx (bs : List Bd) (p : Nat) : List Nat := idxk bs bs.length p
theorem idxk_hit {bs : List Bd} {k p : Nat} (h : (bd bs k).f = p) (hg : (bd bs k).gone = false) : idxk bs (k + 1) p = idxk bs k p ++ [k] := by simp [idxk, List.range_succ, h, hg]
theorem idxk_miss {bs : List Bd} {k p : Nat} (h : (bd bs k).f ≠ p) : idxk bs (k + 1) p = idxk bs k p := by simp [idxk, List.range_succ, h]
theorem idxk_length (bs : List Bd) (k p : Nat) : (idxk bs k p).length ≤ k := by
  have := List.length_filter_le (fun i => decide ((bd bs i).f = p) && !(bd bs i).gone) (List.range k)
  simpa [idxk] using this
theorem idx_lt {bs : List Bd} {p i : Nat} (h : i ∈ idx bs p) : i < bs.length ∧ (bd bs i).f = p := by
  have h' : i < bs.length ∧ (bd bs i).f = p ∧ (bd bs i).gone = false := by simpa [idx, idxk] using h
  exact ⟨h'.1, h'.2.1⟩
/-- A system as it stands in memory: none of its bounds is gone. -/
structure Lv (bs : List Bd) : Prop where
  len : bs.length ≤ 1000000
  live : ∀ b ∈ bs, b.gone = false
theorem Lv.at_ {bs : List Bd} (h : Lv bs) {k : Nat} (hk : k < bs.length) : (bd bs k).gone = false := h.live _ (bd_mem hk)

/-! Distances: one bound, the bounds from one point, one round, rounds until they come to rest. -/
def relax (s : List Int × Bool) (b : Bd) : List Int × Bool :=
  if gt s.1 b.f.toNat + b.m < gt s.1 b.t.toNat then (s.1.set b.t.toNat (gt s.1 b.f.toNat + b.m), true) else s
def relaxL (bs : List Bd) (l : List Nat) (s : List Int × Bool) : List Int × Bool := l.foldl (fun s i => relax s (bd bs i)) s
def relaxP (bs : List Bd) (s : List Int × Bool) (p : Nat) : List Int × Bool := if gt s.1 p = NONE then s else relaxL bs (idx bs p) s
def roundF (bs : List Bd) (N : Nat) (s : List Int × Bool) : List Int × Bool := (List.range N).foldl (relaxP bs) s
def settleF (bs : List Bd) (N : Nat) : Nat → List Int → List Int × Bool
  | 0, d => (d, false)
  | k + 1, d => if (roundF bs N (d, false)).2 then settleF bs N k (roundF bs N (d, false)).1 else ((roundF bs N (d, false)).1, true)

theorem relaxL_nil (bs : List Bd) (s : List Int × Bool) : relaxL bs [] s = s := rfl
theorem relaxL_snoc (bs : List Bd) (l : List Nat) (i : Nat) (s : List Int × Bool) : relaxL bs (l ++ [i]) s = relax (relaxL bs l s) (bd bs i) := by simp [relaxL]
theorem roundF_succ (bs : List Bd) (k : Nat) (s : List Int × Bool) : roundF bs (k + 1) s = relaxP bs (roundF bs k s) k := by simp [roundF, List.range_succ]

/-- Each number is NONE or within K. -/
def Sm (K : Int) (d : List Int) : Prop := ∀ x ∈ d, x = NONE ∨ (-K ≤ x ∧ x ≤ K)
theorem Sm.mono {K K' : Int} {d : List Int} (h : Sm K d) (hK : K ≤ K') : Sm K' d := fun x hx => by
  rcases h x hx with e | e
  · exact .inl e
  · exact .inr ⟨by omega, by omega⟩
theorem Sm.at_ {K : Int} {d : List Int} (h : Sm K d) {k : Nat} (hk : k < d.length) : gt d k = NONE ∨ (-K ≤ gt d k ∧ gt d k ≤ K) := by
  rw [gt_eq hk]
  exact h _ (List.getElem_mem hk)
theorem Sm.set {K : Int} {d : List Int} (h : Sm K d) (k : Nat) {x : Int} (hx : x = NONE ∨ (-K ≤ x ∧ x ≤ K)) : Sm K (d.set k x) := fun y hy => by
  rcases List.mem_or_eq_of_mem_set hy with e | e
  · exact h y e
  · exact e ▸ hx

/-- What a round keeps: the length; the numbers are small, and no number that stood turns to NONE. -/
structure Inv (N : Nat) (K : Int) (d : List Int) (p : Nat) : Prop where
  len : d.length = 128
  small : Sm K d
  there : gt d p ≠ NONE

theorem relax_inv {bs : List Bd} {N : Nat} (hok : Ok N bs) {K : Int} {s : List Int × Bool} {p i : Nat} (hi : i ∈ idx bs p) (h : Inv N K s.1 p) (hK : K ≤ 1000000000000000000) : Inv N (K + 1000000) (relax s (bd bs i)).1 p := by
  obtain ⟨hil, hf⟩ := idx_lt hi
  have hb := hok.each _ (bd_mem hil)
  have hp : p < s.1.length := by have := h.len; have := hok.top; omega
  have h1 := (h.small.at_ hp).resolve_left h.there
  have hN : NONE = 9223372036854775807 := rfl
  have hv : -(K + 1000000) ≤ gt s.1 p + (bd bs i).m ∧ gt s.1 p + (bd bs i).m ≤ K + 1000000 := ⟨by omega, by omega⟩
  have e : (bd bs i).f.toNat = p := by omega
  unfold relax
  rw [e]
  split
  · refine ⟨by simp [h.len], (h.small.mono (by omega)).set _ (.inr hv), ?_⟩
    show gt (s.1.set _ _) p ≠ NONE
    rw [gt_set _ _ _ _ (by have := h.len; have := hok.top; omega)]
    split
    · omega
    · exact h.there
  · exact ⟨h.len, h.small.mono (by omega), h.there⟩

theorem relaxL_inv {bs : List Bd} {N : Nat} (hok : Ok N bs) {K : Int} {s : List Int × Bool} {p : Nat} (l : List Nat) (hl : ∀ i ∈ l, i ∈ idx bs p) (h : Inv N K s.1 p) (hK : K + 1000000 * l.length ≤ 1000000000000000000) :
    Inv N (K + 1000000 * l.length) (relaxL bs l s).1 p := by
  induction l generalizing s K with
  | nil => simpa [relaxL] using h
  | cons i l ih =>
    simp only [List.length_cons] at hK ⊢
    have h2 := relax_inv hok (hl i (by simp)) h (by omega)
    have h3 := ih (fun j hj => hl j (by simp [hj])) h2 (by omega)
    have e : K + 1000000 * ((l.length + 1 : Nat) : Int) = K + 1000000 + 1000000 * (l.length : Int) := by omega
    rw [e]
    exact h3

theorem relaxP_small {bs : List Bd} {N : Nat} (hok : Ok N bs) {K : Int} {s : List Int × Bool} {p : Nat} (hp : p < N) (h : s.1.length = 128 ∧ Sm K s.1) (h0 : 0 ≤ K) (hK : K + 2002000000 ≤ 1000000000000000000) :
    (relaxP bs s p).1.length = 128 ∧ Sm (K + 2002000000) (relaxP bs s p).1 := by
  unfold relaxP
  split
  · exact ⟨h.1, h.2.mono (by omega)⟩
  · rename_i hne
    have hlen : (idx bs p).length ≤ bs.length := idxk_length bs bs.length p
    have := hok.len
    have h1 := relaxL_inv hok (idx bs p) (fun i hi => hi) ⟨h.1, h.2, hne⟩ (by omega)
    exact ⟨h1.len, h1.small.mono (by omega)⟩

theorem roundF_small {bs : List Bd} {N : Nat} (hok : Ok N bs) {K : Int} {s : List Int × Bool} (k : Nat) (hk : k ≤ N) (h : s.1.length = 128 ∧ Sm K s.1) (h0 : 0 ≤ K) (hK : K ≤ 100000000000000000) :
    (roundF bs k s).1.length = 128 ∧ Sm (K + 2002000000 * k) (roundF bs k s).1 := by
  have ht := hok.top
  induction k with
  | zero => simpa [roundF] using h
  | succ k ih =>
    rw [roundF_succ]
    have h1 := relaxP_small (p := k) hok (by omega) (ih (by omega)) (by omega) (by omega)
    exact ⟨h1.1, h1.2.mono (by omega)⟩

end Go.Proofs.Ytnmiecnpiadcnaa.Ln
