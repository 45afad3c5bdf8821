/-
  The reference's Matrix, plainly: the sums of all ways, found by letting more and more points be passed; without a negative circle it holds the program's distances.
-/
import Derived.Test.YteiaofgkmgllcaaPots
set_option linter.unusedVariables false
set_option linter.unusedSimpArgs false
namespace Go.Proofs.Yteiaofgkmgllcaa.Ln

def fr0 : Int × Bool := (0, false)
def lesserF (x y : Int × Bool) : Int × Bool := if x.2 = false ∨ (y.2 = true ∧ y.1 < x.1) then y else x
def up (D : Nat → Nat → Int × Bool) (a b : Nat) (x : Int × Bool) : Nat → Nat → Int × Bool := fun i j => if i = a ∧ j = b then x else D i j
theorem up_self (D : Nat → Nat → Int × Bool) (a b : Nat) (x : Int × Bool) : up D a b x a b = x := by simp [up]
def diag (i j : Nat) : Int × Bool := if i = j then (0, true) else fr0
def edS (D : Nat → Nat → Int × Bool) (b : Bd) : Nat → Nat → Int × Bool := up D b.f.toNat b.t.toNat (lesserF (D b.f.toNat b.t.toNat) (b.m, true))
def edK (bs : List Bd) (k : Nat) : Nat → Nat → Int × Bool := (List.range k).foldl (fun D i => edS D (bd bs i)) diag
theorem edK_succ (bs : List Bd) (k : Nat) : edK bs (k + 1) = edS (edK bs k) (bd bs k) := by simp [edK, List.range_succ]
def fwS (c a : Nat) (D : Nat → Nat → Int × Bool) (b : Nat) : Nat → Nat → Int × Bool :=
  if (D a c).2 && (D c b).2 then up D a b (lesserF (D a b) ((D a c).1 + (D c b).1, (D a c).2)) else D
def fwB (c a : Nat) (D : Nat → Nat → Int × Bool) (k : Nat) : Nat → Nat → Int × Bool := (List.range k).foldl (fwS c a) D
theorem fwB_succ (c a : Nat) (D : Nat → Nat → Int × Bool) (k : Nat) : fwB c a D (k + 1) = fwS c a (fwB c a D k) k := by simp [fwB, List.range_succ]
def fwA (N c : Nat) (D : Nat → Nat → Int × Bool) (k : Nat) : Nat → Nat → Int × Bool := (List.range k).foldl (fun D a => fwB c a D N) D
theorem fwA_succ (N c : Nat) (D : Nat → Nat → Int × Bool) (k : Nat) : fwA N c D (k + 1) = fwB c k (fwA N c D k) N := by simp [fwA, List.range_succ]
def fwC (N : Nat) (D : Nat → Nat → Int × Bool) (k : Nat) : Nat → Nat → Int × Bool := (List.range k).foldl (fun D c => fwA N c D N) D
theorem fwC_succ (N : Nat) (D : Nat → Nat → Int × Bool) (k : Nat) : fwC N D (k + 1) = fwA N k (fwC N D k) N := by simp [fwC, List.range_succ]
def mtx (bs : List Bd) (N : Nat) : Nat → Nat → Int × Bool := fwC N (edK bs bs.length) N

/-- Ways whose inner points are below k. -/
inductive Wk (bs : List Bd) (k : Nat) : Nat → Nat → Int → Prop
  | nil (a : Nat) : Wk bs k a a 0
  | one (i : Nat) (hi : Lv1 bs i) : Wk bs k (bd bs i).f.toNat (bd bs i).t.toNat (bd bs i).m
  | join (a c b : Nat) (s u : Int) (h : Wk bs k a c s) (hc : c < k) (h2 : Wk bs k c b u) : Wk bs k a b (s + u)
theorem Wk.cast {bs : List Bd} {k a b : Nat} {s x : Int} (h : Wk bs k a b s) (e : x = s) : Wk bs k a b x := by subst e; exact h
theorem Wk.path {bs : List Bd} {k a b : Nat} {s : Int} (h : Wk bs k a b s) : ∃ l, Pth bs a l b s := by
  induction h with
  | nil a => exact ⟨[], .nil _⟩
  | one i hi => exact ⟨[i], Pth.one hi⟩
  | join a c b s u _ _ _ ih1 ih2 =>
    obtain ⟨l, hl⟩ := ih1
    obtain ⟨m, hm⟩ := ih2
    exact ⟨l ++ m, hl.append hm⟩
theorem Pth.wk {bs : List Bd} {N : Nat} (hok : Ok N bs) {p q : Nat} {l : List Nat} {s : Int} (h : Pth bs p l q s) : Wk bs N p q s := by
  induction h with
  | nil p => exact .nil p
  | cons hi _ ih => exact .join _ _ _ _ _ (.one _ hi) (hok.pts hi).2.1 ih
/-- A way past k, but once. -/
theorem Wk.next {bs : List Bd} (hN : NoNeg bs) {k a b : Nat} {s : Int} (h : Wk bs (k + 1) a b s) :
    (∃ s', Wk bs k a b s' ∧ s' ≤ s) ∨ (∃ s1 s2, Wk bs k a k s1 ∧ Wk bs k k b s2 ∧ s1 + s2 ≤ s) := by
  have loop : ∀ p x, Wk bs k p p x → 0 ≤ x := fun p x hx => by obtain ⟨l, hl⟩ := hx.path; exact hN _ _ _ hl
  induction h with
  | nil a => exact .inl ⟨0, .nil a, Int.le_refl _⟩
  | one i hi => exact .inl ⟨_, .one i hi, Int.le_refl _⟩
  | join a c b s u _ hc _ ih1 ih2 =>
    by_cases e : c = k
    · subst e
      rcases ih1 with ⟨s', h1, e1⟩ | ⟨s1, s2, h1, h2, e1⟩ <;> rcases ih2 with ⟨u', k1, f1⟩ | ⟨u1, u2, k1, k2, f1⟩
      · exact .inr ⟨s', u', h1, k1, by omega⟩
      · have := loop _ _ k1
        exact .inr ⟨s', u2, h1, k2, by omega⟩
      · have := loop _ _ h2
        exact .inr ⟨s1, u', h1, k1, by omega⟩
      · have := loop _ _ h2
        have := loop _ _ k1
        exact .inr ⟨s1, u2, h1, k2, by omega⟩
    · have hck : c < k := by omega
      rcases ih1 with ⟨s', h1, e1⟩ | ⟨s1, s2, h1, h2, e1⟩ <;> rcases ih2 with ⟨u', k1, f1⟩ | ⟨u1, u2, k1, k2, f1⟩
      · exact .inl ⟨s' + u', .join _ c _ _ _ h1 hck k1, by omega⟩
      · exact .inr ⟨s' + u1, u2, .join _ c _ _ _ h1 hck k1, k2, by omega⟩
      · exact .inr ⟨s1, s2 + u', h1, .join _ c _ _ _ h2 hck k1, by omega⟩
      · have := loop _ _ (Wk.join _ c _ _ _ h2 hck k1)
        exact .inr ⟨s1, u2, h1, k2, by omega⟩

/-- What each matrix on the way is: its sums are those of ways; where there is none stand zeros; none is greater than U. -/
structure Mx (bs : List Bd) (N : Nat) (U : Int) (D : Nat → Nat → Int × Bool) : Prop where
  snd : ∀ a b, a < N → b < N → (D a b).2 = true → ∃ l, Pth bs a l b (D a b).1
  zero : ∀ a b, a < N → b < N → (D a b).2 = false → D a b = fr0
  top : ∀ a b, a < N → b < N → (D a b).2 = true → (D a b).1 ≤ U
def Cmp (bs : List Bd) (N k : Nat) (D : Nat → Nat → Int × Bool) : Prop := ∀ a b s, a < N → b < N → Wk bs k a b s → (D a b).2 = true ∧ (D a b).1 ≤ s

theorem lesserF_snd {x y : Int × Bool} (h : y.2 = true) : (lesserF x y).2 = true := by
  unfold lesserF
  split
  · exact h
  · rename_i k
    rcases hx : x.2 with _ | _
    · simp [hx] at k
    · rfl
theorem lesserF_or (x y : Int × Bool) : lesserF x y = x ∨ lesserF x y = y := by
  unfold lesserF
  split
  · exact .inr rfl
  · exact .inl rfl
theorem lesserF_le {x y : Int × Bool} (h : y.2 = true) : (lesserF x y).1 ≤ y.1 ∧ (x.2 = true → (lesserF x y).1 ≤ x.1) := by
  unfold lesserF
  split
  · rename_i k
    refine ⟨Int.le_refl _, fun hx => ?_⟩
    simp [hx] at k
    omega
  · rename_i k
    simp [h] at k
    exact ⟨k.2, fun _ => Int.le_refl _⟩
theorem lesserF_new {x y : Int × Bool} (h : x.2 = false) : lesserF x y = y := by simp [lesserF, h]

theorem edK_ok {bs : List Bd} {N : Nat} (hok : Ok N bs) (hl : ∀ b ∈ bs, b.gone = false) (k : Nat) (hk : k ≤ bs.length) :
    Mx bs N 1000000 (edK bs k) ∧ (∀ a, a < N → (edK bs k a a).2 = true ∧ (edK bs k a a).1 ≤ 0) ∧ ∀ i, i < k → (edK bs k (bd bs i).f.toNat (bd bs i).t.toNat).2 = true ∧ (edK bs k (bd bs i).f.toNat (bd bs i).t.toNat).1 ≤ (bd bs i).m := by
  induction k with
  | zero =>
    refine ⟨⟨fun a b ha hb h => ?_, fun a b ha hb h => ?_, fun a b ha hb h => ?_⟩, fun a ha => by simp [edK, diag], fun i hi => by omega⟩
    all_goals
      simp only [edK, List.range_zero, List.foldl_nil, diag] at h ⊢
      by_cases e : a = b
      · first | (subst e; simp at h ⊢; done) | (subst e; exact ⟨[], by simpa using Pth.nil a⟩)
      · simp [e, fr0] at h ⊢
  | succ k ih =>
    obtain ⟨⟨h1, h2, h3⟩, h4, h5⟩ := ih (by omega)
    have hi : Lv1 bs k := ⟨by omega, hl _ (bd_mem (by omega))⟩
    obtain ⟨hf, ht, _, _, m0, m1⟩ := hok.pts hi
    have hp := Pth.one hi
    rw [edK_succ]
    obtain ⟨D, hD⟩ : ∃ D, edK bs k = D := ⟨_, rfl⟩
    obtain ⟨f, hf'⟩ : ∃ f, (bd bs k).f.toNat = f := ⟨_, rfl⟩
    obtain ⟨t, ht'⟩ : ∃ t, (bd bs k).t.toNat = t := ⟨_, rfl⟩
    obtain ⟨m, hm'⟩ : ∃ m, (bd bs k).m = m := ⟨_, rfl⟩
    have he : edS D (bd bs k) = up D f t (lesserF (D f t) (m, true)) := by rw [edS, hf', ht', hm']
    rw [hD] at h1 h2 h3 h4 h5
    rw [hD, he]
    rw [hf'] at hf hp
    rw [ht'] at ht hp
    rw [hm'] at m0 m1 hp
    have hle := lesserF_le (x := D f t) (y := (m, true)) rfl
    have hsn := lesserF_snd (x := D f t) (y := (m, true)) rfl
    refine ⟨⟨fun a b ha hb h => ?_, fun a b ha hb h => ?_, fun a b ha hb h => ?_⟩, fun a ha => ?_, fun i hi' => ?_⟩
    · unfold up at h ⊢
      split at h
      · rename_i e
        rw [if_pos e]
        obtain ⟨rfl, rfl⟩ := e
        rcases lesserF_or (D a b) (m, true) with e2 | e2
        · rw [e2] at h ⊢; exact h1 a b ha hb h
        · rw [e2]; exact ⟨_, hp⟩
      · rename_i e
        rw [if_neg e]
        exact h1 a b ha hb h
    · unfold up at h ⊢
      split at h
      · rw [hsn] at h; cases h
      · rename_i e
        rw [if_neg e]
        exact h2 a b ha hb h
    · unfold up at h ⊢
      split at h
      · rename_i e
        rw [if_pos e]
        have := hle.1
        dsimp only at this
        omega
      · rename_i e
        rw [if_neg e]
        exact h3 a b ha hb h
    · have := h4 a ha
      unfold up
      split
      · rename_i e
        obtain ⟨rfl, rfl⟩ := e
        exact ⟨hsn, by have := hle.2 this.1; omega⟩
      · exact this
    · have key : ∀ i, i < k → (up D f t (lesserF (D f t) (m, true)) (bd bs i).f.toNat (bd bs i).t.toNat).2 = true ∧ (up D f t (lesserF (D f t) (m, true)) (bd bs i).f.toNat (bd bs i).t.toNat).1 ≤ (bd bs i).m := fun i hik => by
        have := h5 i hik
        unfold up
        split
        · rename_i e
          rw [e.1, e.2] at this
          exact ⟨hsn, by have := hle.2 this.1; omega⟩
        · exact this
      rcases Nat.lt_or_ge i k with hik | hik
      · exact key i hik
      · obtain rfl : i = k := by omega
        rw [hf', ht', hm', up_self]
        exact ⟨hsn, hle.1⟩

/-- What a part of the round by point c keeps, from D0 on. -/
structure Ph (bs : List Bd) (N : Nat) (U : Int) (c : Nat) (D0 D : Nat → Nat → Int × Bool) : Prop where
  mx : Mx bs N (2 * U) D
  mono : ∀ a b, a < N → b < N → (D0 a b).2 = true → (D a b).2 = true ∧ (D a b).1 ≤ (D0 a b).1
  row : ∀ b, b < N → (D c b).2 = true → (D0 c b).2 = true
  col : ∀ a, a < N → (D a c).2 = true → (D0 a c).2 = true

theorem Ph.start {bs : List Bd} {N : Nat} {U : Int} {c : Nat} {D : Nat → Nat → Int × Bool} (h : Mx bs N U D) (hU : 0 ≤ U) : Ph bs N U c D D :=
  ⟨⟨h.snd, h.zero, fun a b ha hb k => by have := h.top a b ha hb k; omega⟩, fun _ _ _ _ k => ⟨k, Int.le_refl _⟩, fun _ _ k => k, fun _ _ k => k⟩

theorem fwS_ph {bs : List Bd} {N : Nat} {U : Int} {c : Nat} {D0 D : Nat → Nat → Int × Bool} (h0 : Mx bs N U D0) (hc : c < N) (h : Ph bs N U c D0 D) {a b : Nat} (ha : a < N) (hb : b < N) :
    Ph bs N U c D0 (fwS c a D b) ∧ (∀ i j, i < N → j < N → (D i j).2 = true → (fwS c a D b i j).2 = true ∧ (fwS c a D b i j).1 ≤ (D i j).1) ∧
    ((D0 a c).2 = true → (D0 c b).2 = true → (fwS c a D b a b).2 = true ∧ (fwS c a D b a b).1 ≤ (D0 a c).1 + (D0 c b).1) := by
  unfold fwS
  split
  · rename_i hcc
    obtain ⟨c1, c2⟩ : (D a c).2 = true ∧ (D c b).2 = true := by simpa using hcc
    have r1 := h.col a ha c1
    have r2 := h.row b hb c2
    have m1 := h.mono a c ha hc r1
    have m2 := h.mono c b hc hb r2
    have t1 := h0.top a c ha hc r1
    have t2 := h0.top c b hc hb r2
    obtain ⟨l1, p1⟩ := h.mx.snd a c ha hc c1
    obtain ⟨l2, p2⟩ := h.mx.snd c b hc hb c2
    have hle := lesserF_le (x := D a b) (y := ((D a c).1 + (D c b).1, (D a c).2)) c1
    have hsn := lesserF_snd (x := D a b) (y := ((D a c).1 + (D c b).1, (D a c).2)) c1
    have hor := lesserF_or (D a b) ((D a c).1 + (D c b).1, (D a c).2)
    dsimp only at hle
    obtain ⟨x, hx⟩ : ∃ x, lesserF (D a b) ((D a c).1 + (D c b).1, (D a c).2) = x := ⟨_, rfl⟩
    rw [hx] at hle hsn hor ⊢
    have hmono : ∀ i j, i < N → j < N → (D i j).2 = true → (up D a b x i j).2 = true ∧ (up D a b x i j).1 ≤ (D i j).1 := fun i j hi hj k => by
      unfold up
      split
      · rename_i e
        obtain ⟨rfl, rfl⟩ := e
        exact ⟨hsn, hle.2 k⟩
      · exact ⟨k, Int.le_refl _⟩
    refine ⟨⟨⟨fun i j hi hj k => ?_, fun i j hi hj k => ?_, fun i j hi hj k => ?_⟩, fun i j hi hj k => ?_, fun j hj k => ?_, fun i hi k => ?_⟩, hmono, fun _ _ => ?_⟩
    · unfold up at k ⊢
      split at k
      · rename_i e
        rw [if_pos e]
        obtain ⟨rfl, rfl⟩ := e
        rcases hor with e2 | e2
        · rw [e2] at k ⊢; exact h.mx.snd i j hi hj k
        · rw [e2]; exact ⟨_, p1.append p2⟩
      · rename_i e
        rw [if_neg e]
        exact h.mx.snd i j hi hj k
    · unfold up at k ⊢
      split at k
      · rw [hsn] at k; cases k
      · rename_i e
        rw [if_neg e]
        exact h.mx.zero i j hi hj k
    · unfold up at k ⊢
      split at k
      · rename_i e
        rw [if_pos e]
        omega
      · rename_i e
        rw [if_neg e]
        exact h.mx.top i j hi hj k
    · have n1 := h.mono i j hi hj k
      have n2 := hmono i j hi hj n1.1
      exact ⟨n2.1, by omega⟩
    · unfold up at k
      split at k
      · rename_i e
        obtain ⟨rfl, rfl⟩ := e
        exact r2
      · exact h.row j hj k
    · unfold up at k
      split at k
      · rename_i e
        obtain ⟨rfl, rfl⟩ := e
        exact r1
      · exact h.col i hi k
    · rw [up_self]
      exact ⟨hsn, by omega⟩
  · rename_i hcc
    refine ⟨h, fun _ _ _ _ k => ⟨k, Int.le_refl _⟩, fun k1 k2 => ?_⟩
    have m1 := h.mono a c ha hc k1
    have m2 := h.mono c b hc hb k2
    exact absurd (by simp [m1.1, m2.1]) hcc

theorem fwB_ph {bs : List Bd} {N : Nat} {U : Int} {c : Nat} {D0 D : Nat → Nat → Int × Bool} (h0 : Mx bs N U D0) (hc : c < N) (h : Ph bs N U c D0 D) {a : Nat} (ha : a < N) (k : Nat) (hk : k ≤ N) :
    Ph bs N U c D0 (fwB c a D k) ∧ (∀ i j, i < N → j < N → (D i j).2 = true → (fwB c a D k i j).2 = true ∧ (fwB c a D k i j).1 ≤ (D i j).1) ∧
    ∀ b, b < k → (D0 a c).2 = true → (D0 c b).2 = true → (fwB c a D k a b).2 = true ∧ (fwB c a D k a b).1 ≤ (D0 a c).1 + (D0 c b).1 := by
  induction k with
  | zero => exact ⟨h, fun _ _ _ _ k => ⟨k, Int.le_refl _⟩, fun b hb => by omega⟩
  | succ k ih =>
    obtain ⟨i1, i2, i3⟩ := ih (by omega)
    rw [fwB_succ]
    obtain ⟨j1, j2, j3⟩ := fwS_ph h0 hc i1 ha (b := k) (by omega)
    refine ⟨j1, fun i j hi hj q => ?_, fun b hb q1 q2 => ?_⟩
    · have n1 := i2 i j hi hj q
      have n2 := j2 i j hi hj n1.1
      exact ⟨n2.1, by omega⟩
    · rcases Nat.lt_or_ge b k with e | e
      · have n1 := i3 b e q1 q2
        have n2 := j2 a b ha (by omega) n1.1
        exact ⟨n2.1, by omega⟩
      · obtain rfl : b = k := by omega
        exact j3 q1 q2

theorem fwA_ph {bs : List Bd} {N : Nat} {U : Int} {c : Nat} {D0 : Nat → Nat → Int × Bool} (h0 : Mx bs N U D0) (hU : 0 ≤ U) (hc : c < N) (k : Nat) (hk : k ≤ N) :
    Ph bs N U c D0 (fwA N c D0 k) ∧ ∀ a b, a < k → b < N → (D0 a c).2 = true → (D0 c b).2 = true → (fwA N c D0 k a b).2 = true ∧ (fwA N c D0 k a b).1 ≤ (D0 a c).1 + (D0 c b).1 := by
  induction k with
  | zero => exact ⟨Ph.start h0 hU, fun a b ha => by omega⟩
  | succ k ih =>
    obtain ⟨i1, i3⟩ := ih (by omega)
    rw [fwA_succ]
    obtain ⟨j1, j2, j3⟩ := fwB_ph h0 hc i1 (a := k) (by omega) N (Nat.le_refl _)
    refine ⟨j1, fun a b ha hb q1 q2 => ?_⟩
    rcases Nat.lt_or_ge a k with e | e
    · have n1 := i3 a b e hb q1 q2
      have n2 := j2 a b (by omega) hb n1.1
      exact ⟨n2.1, by omega⟩
    · obtain rfl : a = k := by omega
      exact j3 b hb q1 q2

def mtop : Nat → Int
  | 0 => 1000000
  | k + 1 => 2 * mtop k
theorem mtop_pos (k : Nat) : 0 ≤ mtop k := by
  induction k with
  | zero => simp [mtop]
  | succ k ih => rw [mtop]; omega
theorem mtop_succ (k : Nat) : mtop (k + 1) = 2 * mtop k := rfl
theorem mtop_mono {k j : Nat} (h : k ≤ j) : mtop k ≤ mtop j := by
  induction j with
  | zero => obtain rfl : k = 0 := by omega
            exact Int.le_refl _
  | succ j ih =>
    rcases Nat.lt_or_ge k (j + 1) with e | e
    · have := ih (by omega)
      have := mtop_pos j
      rw [mtop_succ]
      omega
    · obtain rfl : k = j + 1 := by omega
      exact Int.le_refl _
theorem mtop_14 : mtop 14 = 16384000000 := by decide
theorem fwC_ok {bs : List Bd} {N : Nat} (hok : Ok N bs) (hl : ∀ b ∈ bs, b.gone = false) (hN : NoNeg bs) (k : Nat) (hk : k ≤ N) :
    Mx bs N (mtop k) (fwC N (edK bs bs.length) k) ∧ Cmp bs N k (fwC N (edK bs bs.length) k) := by
  induction k with
  | zero =>
    obtain ⟨e1, e2, e3⟩ := edK_ok hok hl bs.length (Nat.le_refl _)
    refine ⟨e1, fun a b s ha hb h => ?_⟩
    show (edK bs bs.length a b).2 = true ∧ (edK bs bs.length a b).1 ≤ s
    cases h with
    | nil => exact e2 a ha
    | one i hi => exact e3 i hi.1
    | join c s u h1 hc => omega
  | succ k ih =>
    obtain ⟨i1, i2⟩ := ih (by omega)
    rw [fwC_succ]
    obtain ⟨j1, j3⟩ := fwA_ph i1 (mtop_pos k) (c := k) (by omega) N (Nat.le_refl _)
    refine ⟨by rw [mtop_succ]; exact j1.mx, fun a b s ha hb h => ?_⟩
    rcases h.next hN with ⟨s', h1, e1⟩ | ⟨s1, s2, h1, h2, e1⟩
    · have n1 := i2 a b s' ha hb h1
      have n2 := j1.mono a b ha hb n1.1
      exact ⟨n2.1, by omega⟩
    · have n1 := i2 a k s1 ha (by omega) h1
      have n2 := i2 k b s2 (by omega) hb h2
      have n3 := j3 a b ha hb n1.1 n2.1
      exact ⟨n3.1, by omega⟩

theorem Mx.small {bs : List Bd} {N : Nat} (hok : Ok N bs) (hN : NoNeg bs) {U : Int} (h0 : 0 ≤ U) {D : Nat → Nat → Int × Bool} (h : Mx bs N U D) {a b : Nat} (ha : a < N) (hb : b < N) : -(1000000 * (N : Int)) ≤ (D a b).1 ∧ (D a b).1 ≤ U := by
  rcases e : (D a b).2 with _ | _
  · rw [h.zero a b ha hb e, fr0]
    exact ⟨by dsimp only; omega, h0⟩
  · refine ⟨?_, h.top a b ha hb e⟩
    obtain ⟨l, hp⟩ := h.snd a b ha hb e
    obtain ⟨l', s', h1, h2, h3, _⟩ := short hok hN hp ha
    have := h1.sum_le hok
    omega
/-- On the way no sum is great. -/
theorem fw_small {bs : List Bd} {N : Nat} (hok : Ok N bs) (hl : ∀ b ∈ bs, b.gone = false) (hN : NoNeg bs) (h14 : N ≤ 14) {c a k : Nat} (hc : c < N) (ha : a < N) (hk : k ≤ N) {i j : Nat} (hi : i < N) (hj : j < N) :
    -100000000000 ≤ (fwB c a (fwA N c (fwC N (edK bs bs.length) c) a) k i j).1 ∧ (fwB c a (fwA N c (fwC N (edK bs bs.length) c) a) k i j).1 ≤ 100000000000 := by
  have h1 := (fwC_ok hok hl hN c (by omega)).1
  have h2 := (fwA_ph h1 (mtop_pos c) hc a (by omega)).1
  have h3 := (fwB_ph h1 hc h2 ha k hk).1.mx
  have hp := mtop_pos c
  have := h3.small hok hN (by omega) hi hj
  have hm : mtop c ≤ mtop 14 := mtop_mono (by omega)
  rw [mtop_14] at hm
  omega

/-- A distance as the reference says it. -/
def ffar (x : Int) : Int × Bool := if x = NONE then (0, false) else (x, true)
theorem mtx_at {bs : List Bd} {N : Nat} (hok : Ok N bs) (hl : ∀ b ∈ bs, b.gone = false) (hN : NoNeg bs) {a b : Nat} (ha : a < N) (hb : b < N) : mtx bs N a b = ffar (gt (distF bs N a) b) := by
  obtain ⟨h1, h2⟩ := fwC_ok hok hl hN N (Nat.le_refl _)
  have hd := dist_ok hok hN ha
  have htop := hok.top
  show fwC N (edK bs bs.length) N a b = _
  unfold ffar
  rcases hs : (fwC N (edK bs bs.length) N a b).2 with _ | _
  · have hz := h1.zero a b ha hb hs
    rw [hz, if_pos]
    · rfl
    · refine Classical.byContradiction fun hne => ?_
      obtain ⟨l, hp⟩ := hd.some b (by omega) hne
      have := (h2 a b _ ha hb (hp.wk hok)).1
      rw [hs] at this
      cases this
  · obtain ⟨l, hp⟩ := h1.snd a b ha hb hs
    obtain ⟨hne, hle⟩ := hd.le _ _ _ hp
    rw [if_neg hne]
    obtain ⟨l', hp'⟩ := hd.some b (by omega) hne
    have := (h2 a b _ ha hb (hp'.wk hok)).2
    exact Prod.ext (by dsimp only; omega) hs

end Go.Proofs.Yteiaofgkmgllcaa.Ln
