/-
  The reference's rows of steps, plainly: first paths in the order of lists, and why Path and Circle are those of the program.
-/
import Derived.Test.YteiaofgkmgllcaaMtx
import Derived.Test.YteiaofgkmgllcaaPots
set_option linter.unusedVariables false
set_option linter.unusedSimpArgs false
namespace Go.Proofs.Yteiaofgkmgllcaa.Ln

/-- Lists of one length in their order. -/
def lexLe : List Nat → List Nat → Prop
  | [], _ => True
  | _ :: _, [] => False
  | x :: a, y :: b => x < y ∨ (x = y ∧ lexLe a b)
theorem lexLe_refl (l : List Nat) : lexLe l l := by
  induction l with
  | nil => trivial
  | cons x a ih => exact .inr ⟨rfl, ih⟩
theorem lexLe_anti {a b : List Nat} (hl : a.length = b.length) (h1 : lexLe a b) (h2 : lexLe b a) : a = b := by
  induction a generalizing b with
  | nil => exact (List.length_eq_zero_iff.1 hl.symm).symm
  | cons x a ih =>
    cases b with
    | nil => cases hl
    | cons y b =>
      simp only [lexLe] at h1 h2
      rcases h1 with h1 | ⟨rfl, h1⟩
      · rcases h2 with h2 | ⟨rfl, h2⟩
        · omega
        · omega
      · rcases h2 with h2 | ⟨_, h2⟩
        · omega
        · rw [ih (by simpa using hl) h1 h2]
theorem lexLe_trans {a b c : List Nat} (h1 : lexLe a b) (h2 : lexLe b c) : lexLe a c := by
  induction a generalizing b c with
  | nil => trivial
  | cons x a ih =>
    cases b with
    | nil => exact h1.elim
    | cons y b =>
      cases c with
      | nil => exact h2.elim
      | cons z c =>
        simp only [lexLe] at h1 h2 ⊢
        rcases h1 with h1 | ⟨rfl, h1⟩ <;> rcases h2 with h2 | ⟨rfl, h2⟩
        · exact .inl (by omega)
        · exact .inl h1
        · exact .inl h2
        · exact .inr ⟨rfl, ih h1 h2⟩
theorem lexLe_total {a b : List Nat} (hl : a.length = b.length) (h : ¬ lexLe a b) : lexLe b a := by
  induction a generalizing b with
  | nil => exact absurd trivial h
  | cons x a ih =>
    cases b with
    | nil => trivial
    | cons y b =>
      simp only [lexLe] at h ⊢
      by_cases e : x = y
      · subst e
        exact .inr ⟨rfl, ih (by simpa using hl) (fun k => h (.inr ⟨rfl, k⟩))⟩
      · exact .inl (by have := fun k => h (.inl k); omega)
theorem cmpI_nat {x y : Nat} : (cmpI (x : Int) (y : Int) = 0 ↔ x = y) ∧ (cmpI (x : Int) (y : Int) < 0 ↔ x < y) := by
  unfold cmpI
  constructor
  · split
    · omega
    · split <;> omega
  · split
    · omega
    · split <;> omega
theorem cmpL_lex {a b : List Nat} (hl : a.length = b.length) : (cmpL (zl a) (zl b) < 0 → lexLe a b) ∧ (¬ cmpL (zl a) (zl b) < 0 → lexLe b a) := by
  induction a generalizing b with
  | nil =>
    have : b = [] := List.length_eq_zero_iff.1 hl.symm
    subst this
    exact ⟨fun _ => trivial, fun _ => trivial⟩
  | cons x a ih =>
    cases b with
    | nil => cases hl
    | cons y b =>
      have ih := ih (b := b) (by simpa using hl)
      have hc := @cmpI_nat x y
      show (cmpL ((x : Int) :: zl a) ((y : Int) :: zl b) < 0 → _) ∧ (¬ cmpL ((x : Int) :: zl a) ((y : Int) :: zl b) < 0 → _)
      rw [cmpL]
      simp only [lexLe]
      by_cases e : cmpI (x : Int) (y : Int) = 0
      · rw [if_pos e]
        have hxy := hc.1.1 e
        exact ⟨fun h => .inr ⟨hxy, ih.1 h⟩, fun h => .inr ⟨hxy.symm, ih.2 h⟩⟩
      · rw [if_neg e]
        exact ⟨fun h => .inl (hc.2.1 h), fun h => .inl (by
          have h1 : ¬ x < y := fun k => h (hc.2.2 k)
          have h2 : ¬ x = y := fun k => e (hc.1.2 k)
          omega)⟩
theorem clF_lex {a b : List Nat} (hl : a.length = b.length) : (clF (zl a) (zl b) < 0 → lexLe a b) ∧ (¬ clF (zl a) (zl b) < 0 → lexLe b a) := by
  have e : clF (zl a) (zl b) = cmpL (zl a) (zl b) := by
    unfold clF
    rw [zl_length, zl_length, hl, if_pos (cmpI_nat.1.2 rfl)]
  rw [e]
  exact cmpL_lex hl
theorem clF_short {a b : List Nat} (hl : a.length < b.length) : clF (zl a) (zl b) < 0 := by
  unfold clF
  rw [zl_length, zl_length]
  have h := (@cmpI_nat a.length b.length).2.2 hl
  rw [if_neg (by omega)]
  exact h

/-- A path of k bounds from p to b, none of an index less than n, with a sum of at most most. -/
structure PS (bs : List Bd) (n k p b : Nat) (most : Int) (l : List Nat) : Prop where
  path : ∃ s, Pth bs p l b s ∧ s ≤ most
  len : l.length = k
  from_ : ∀ i ∈ l, n ≤ i
/-- The first one of these. -/
structure FP (bs : List Bd) (n k p b : Nat) (most : Int) (l : List Nat) : Prop where
  is : PS bs n k p b most l
  least : ∀ l', PS bs n k p b most l' → lexLe l l'
theorem FP.unique {bs : List Bd} {n k p b : Nat} {most : Int} {l l' : List Nat} (h : FP bs n k p b most l) (h' : FP bs n k p b most l') : l = l' :=
  lexLe_anti (h.is.len.trans h'.is.len.symm) (h.least _ h'.is) (h'.least _ h.is)
theorem PS.cons_inv {bs : List Bd} {n k p b : Nat} {most : Int} {i : Nat} {l : List Nat} (h : PS bs n (k + 1) p b most (i :: l)) : Lv1 bs i ∧ (bd bs i).f.toNat = p ∧ n ≤ i ∧ PS bs n k (bd bs i).t.toNat b (most - (bd bs i).m) l := by
  obtain ⟨⟨s, hp, hs⟩, hl, hf⟩ := h
  cases hp with
  | @cons _ _ _ s hi hp => exact ⟨hi, rfl, hf i (by simp), ⟨s, hp, by omega⟩, by simpa using hl, fun j hj => hf j (by simp [hj])⟩
theorem PS.cons {bs : List Bd} {n k p b : Nat} {most : Int} {i : Nat} {l : List Nat} (hi : Lv1 bs i) (hp : (bd bs i).f.toNat = p) (hn : n ≤ i) (h : PS bs n k (bd bs i).t.toNat b (most - (bd bs i).m) l) : PS bs n (k + 1) p b most (i :: l) := by
  obtain ⟨⟨s, hs, hm⟩, hl, hf⟩ := h
  exact ⟨⟨_, Pth.cons' hi hp hs rfl, by omega⟩, by simp [hl], fun j hj => by
    rcases List.mem_cons.1 hj with rfl | hj
    · exact hn
    · exact hf j hj⟩
theorem PS.not_nil {bs : List Bd} {n k p b : Nat} {most : Int} (h : PS bs n (k + 1) p b most []) : False := by have := h.len; simp at this

/-- What the search takes for a bound: the first of those that lead on. -/
theorem FP.cons {bs : List Bd} {n k p b : Nat} {most : Int} {i : Nat} {l : List Nat} (hi : Lv1 bs i) (hp : (bd bs i).f.toNat = p) (hn : n ≤ i) (h : FP bs n k (bd bs i).t.toNat b (most - (bd bs i).m) l)
    (hmin : ∀ j, j < i → n ≤ j → Lv1 bs j → (bd bs j).f.toNat = p → ∀ l', ¬ PS bs n k (bd bs j).t.toNat b (most - (bd bs j).m) l') : FP bs n (k + 1) p b most (i :: l) := by
  refine ⟨.cons hi hp hn h.is, fun l' hl' => ?_⟩
  cases l' with
  | nil => exact hl'.not_nil.elim
  | cons j l' =>
    obtain ⟨a, c, d, e⟩ := hl'.cons_inv
    simp only [lexLe]
    by_cases h1 : i < j
    · exact .inl h1
    · by_cases h2 : i = j
      · subst h2
        exact .inr ⟨rfl, h.least _ e⟩
      · exact absurd e (hmin j (by omega) d a c l')

/-- The program's search finds the first path. -/
theorem wkF_fp {bs : List Bd} {N : Nat} (hok : Ok N bs) {b : Nat} (hb : b < N) (k : Nat) (hk : k ≤ 1000) (p : Nat) (hp : p < N) (most : Int) (hm : most + 1000000 * (k : Int) < NONE) (h : gt (rowF bs N b k) p ≤ most) :
    FP bs 0 k p b most (wkF bs (rowF bs N b) k p most) := by
  have ht := hok.top
  induction k generalizing p most with
  | zero =>
    rw [show rowF bs N b 0 = nones.set b 0 from rfl, start_at (by omega) (by omega)] at h
    split at h
    · rename_i e; subst e
      exact ⟨⟨⟨0, .nil _, h⟩, rfl, fun i hi => by cases hi⟩, fun l' _ => trivial⟩
    · omega
  | succ k ih =>
    have r1 := row_ok hok hb (k + 1) hk
    have r0 := row_ok hok hb k (by omega)
    obtain ⟨l, hl, hlen⟩ := r1.some p (by omega) (by omega)
    rcases hf : (idx bs p).find? (okP bs (rowF bs N b k) most) with _ | j
    · exfalso
      rw [List.find?_eq_none] at hf
      generalize gt (rowF bs N b (k + 1)) p = g at hl h
      cases hl with
      | nil => simp at hlen
      | @cons i l q s hi hp' =>
        have hpt := hok.pts hi
        simp only [List.length_cons] at hlen
        obtain ⟨e1, e2⟩ := r0.le _ _ _ hp' (by omega)
        apply hf i (mem_idx.2 ⟨hi, by omega⟩)
        simp [okP, e1]
        omega
    · rw [wkF_some hf]
      have hj := List.mem_of_find?_eq_some hf
      have hjp := List.find?_some hf
      obtain ⟨hj1, hj2⟩ := mem_idx.1 hj
      have hpt := hok.pts hj1
      simp only [okP, Bool.and_eq_true, Bool.not_eq_true', decide_eq_false_iff_not, decide_eq_true_eq] at hjp
      refine FP.cons hj1 (by omega) (Nat.zero_le _) (ih (by omega) (bd bs j).t.toNat hpt.2.1 (most - (bd bs j).m) (by omega) (by omega)) fun i hij _ hi hip l' hl' => ?_
      obtain ⟨⟨s, hs, hsm⟩, hlen', _⟩ := hl'
      obtain ⟨e1, e2⟩ := r0.le _ _ _ hs hlen'
      have hpi := hok.pts hi
      have him : i ∈ idx bs p := mem_idx.2 ⟨hi, by omega⟩
      have hsort : (idx bs p).Pairwise (· < ·) := List.Pairwise.filter _ List.pairwise_lt_range
      obtain ⟨_, as, bs', h3, h4⟩ := List.find?_eq_some_iff_append.1 hf
      rw [h3] at him hsort
      rcases List.mem_append.1 him with hia | hib
      · have := h4 i hia
        simp [okP, e1] at this
        omega
      · rcases List.mem_cons.1 hib with rfl | hib
        · omega
        · have := List.rel_of_pairwise_cons (List.pairwise_append.1 hsort).2.1 hib
          omega

/-! ### Rows of steps -/
/-- What a row of the reference says: the least sums of paths of k bounds to b, none of an index less than n. -/
structure RG (bs : List Bd) (n b k : Nat) (R : Nat → Int × Bool) : Prop where
  le : ∀ v l s, Pth bs v l b s → l.length = k → (∀ i ∈ l, n ≤ i) → (R v).2 = true ∧ (R v).1 ≤ s
  some : ∀ v, (R v).2 = true → ∃ l, Pth bs v l b (R v).1 ∧ l.length = k ∧ ∀ i ∈ l, n ≤ i
def st0 (b v : Nat) : Int × Bool := if v = b then (0, true) else fr0
theorem st0_ok (bs : List Bd) (n b : Nat) : RG bs n b 0 (st0 b) := by
  refine ⟨fun v l s hp hl _ => ?_, fun v hv => ?_⟩
  · cases hp with
    | nil => simp [st0]
    | cons => simp at hl
  · unfold st0 at hv ⊢
    split at hv
    · rename_i e
      subst e
      rw [if_pos rfl]
      exact ⟨[], .nil _, rfl, fun i hi => by cases hi⟩
    · cases hv
/-- One bound of a row's making. -/
def stS (R : Nat → Int × Bool) (O : Nat → Int × Bool) (b : Bd) : Nat → Int × Bool :=
  if (R b.t.toNat).2 = true then (fun v => if v = b.f.toNat then lesserF (O b.f.toNat) ((R b.t.toNat).1 + b.m, true) else O v) else O
/-- The row, when the bounds from n to below j are in. -/
def stR (bs : List Bd) (R : Nat → Int × Bool) (n j : Nat) : Nat → Int × Bool := (List.range j).foldl (fun O i => if n ≤ i then stS R O (bd bs i) else O) (fun _ => fr0)
theorem stR_succ {bs : List Bd} {R : Nat → Int × Bool} {n j : Nat} (h : n ≤ j) : stR bs R n (j + 1) = stS R (stR bs R n j) (bd bs j) := by
  unfold stR
  rw [List.range_succ, List.foldl_append]
  simp [h]
theorem stR_start {bs : List Bd} {R : Nat → Int × Bool} {n j : Nat} (h : j ≤ n) : stR bs R n j = fun _ => fr0 := by
  induction j with
  | zero => rfl
  | succ j ih =>
    unfold stR
    rw [List.range_succ, List.foldl_append]
    simp only [List.foldl_cons, List.foldl_nil, if_neg (show ¬ n ≤ j by omega)]
    exact ih (by omega)

structure RP (bs : List Bd) (n b k j : Nat) (O : Nat → Int × Bool) : Prop where
  le : ∀ i l s, i < j → n ≤ i → Lv1 bs i → Pth bs (bd bs i).t.toNat l b s → l.length = k → (∀ i ∈ l, n ≤ i) → (O (bd bs i).f.toNat).2 = true ∧ (O (bd bs i).f.toNat).1 ≤ (bd bs i).m + s
  some : ∀ v, (O v).2 = true → ∃ l, Pth bs v l b (O v).1 ∧ l.length = k + 1 ∧ ∀ i ∈ l, n ≤ i
theorem stR_ok {bs : List Bd} (hl : ∀ b ∈ bs, b.gone = false) {n b k : Nat} {R : Nat → Int × Bool} (h : RG bs n b k R) (j : Nat) (hj : j ≤ bs.length) : RP bs n b k j (stR bs R n j) := by
  induction j with
  | zero => exact ⟨fun i l s hi => absurd hi (by omega), fun v hv => by cases hv⟩
  | succ j ih =>
    have ih := ih (by omega)
    by_cases hnj : n ≤ j
    · rw [stR_succ hnj]
      have hlv : Lv1 bs j := ⟨by omega, hl _ (bd_mem (by omega))⟩
      generalize stR bs R n j = O at ih ⊢
      unfold stS
      by_cases hr : (R (bd bs j).t.toNat).2 = true
      · rw [if_pos hr]
        refine ⟨fun i l s hi hni hli hp hlen hfr => ?_, fun v hv => ?_⟩
        · skip
          by_cases e : i = j
          · subst e
            rw [if_pos rfl]
            have h1 := h.le _ _ _ hp hlen hfr
            have h2 := lesserF_le (x := O (bd bs i).f.toNat) (y := ((R (bd bs i).t.toNat).1 + (bd bs i).m, true)) rfl
            refine ⟨lesserF_snd rfl, ?_⟩
            have := h2.1
            dsimp only at this
            omega
          · have h0 := ih.le i l s (by omega) hni hli hp hlen hfr
            by_cases e2 : (bd bs i).f.toNat = (bd bs j).f.toNat
            · rw [if_pos e2]
              refine ⟨lesserF_snd rfl, ?_⟩
              rw [e2] at h0
              have h2 := (lesserF_le (x := O (bd bs j).f.toNat) (y := ((R (bd bs j).t.toNat).1 + (bd bs j).m, true)) rfl).2 h0.1
              omega
            · rw [if_neg e2]
              exact h0
        · skip
          by_cases e : v = (bd bs j).f.toNat
          · subst e
            rw [if_pos rfl] at hv ⊢
            rcases lesserF_or (O (bd bs j).f.toNat) ((R (bd bs j).t.toNat).1 + (bd bs j).m, true) with e2 | e2
            · rw [e2] at hv ⊢
              exact ih.some _ hv
            · rw [e2]
              obtain ⟨l, h1, h2, h3⟩ := h.some _ hr
              exact ⟨j :: l, (Pth.cons hlv h1).cast (by dsimp only; omega), by simp [h2], fun i hi => by
                rcases List.mem_cons.1 hi with rfl | hi
                · exact hnj
                · exact h3 i hi⟩
          · rw [if_neg e] at hv ⊢
            exact ih.some _ hv
      · rw [if_neg hr]
        refine ⟨fun i l s hi hni hli hp hlen hfr => ?_, ih.some⟩
        by_cases e : i = j
        · subst e
          exact absurd (h.le _ _ _ hp hlen hfr).1 hr
        · exact ih.le i l s (by omega) hni hli hp hlen hfr
    · have e : stR bs R n (j + 1) = stR bs R n j := by rw [stR_start (by omega), stR_start (by omega)]
      rw [e]
      exact ⟨fun i l s hi hni => ih.le i l s (by omega) hni, ih.some⟩
def rowG (bs : List Bd) (n b : Nat) : Nat → Nat → Int × Bool
  | 0 => st0 b
  | k + 1 => stR bs (rowG bs n b k) n bs.length
theorem rowG_ok {bs : List Bd} (hl : ∀ b ∈ bs, b.gone = false) (n b k : Nat) : RG bs n b k (rowG bs n b k) := by
  induction k with
  | zero => exact st0_ok bs n b
  | succ k ih =>
    have h := stR_ok hl ih bs.length (Nat.le_refl _)
    refine ⟨fun v l s hp hlen hfr => ?_, h.some⟩
    cases hp with
    | nil => simp at hlen
    | @cons i l q s hi hp => exact h.le i l s hi.1 (hfr i (by simp)) hi hp (by simpa using hlen) (fun j hj => hfr j (by simp [hj]))
theorem Pth.sum_small {bs : List Bd} {N : Nat} (hok : Ok N bs) {p q : Nat} {l : List Nat} {s : Int} (h : Pth bs p l q s) : -(1000000 * (l.length : Int)) ≤ s ∧ s ≤ 1000000 * (l.length : Int) := by
  induction h with
  | nil => simp
  | @cons i l q s hi _ ih =>
    have := (hok.each _ (bd_mem hi.1)).2.2
    simp only [List.length_cons]
    omega
theorem stS_or (R O : Nat → Int × Bool) (b : Bd) (v : Nat) : stS R O b v = O v ∨ stS R O b v = ((R b.t.toNat).1 + b.m, true) := by
  unfold stS
  split
  · dsimp only
    split
    · rename_i e
      subst e
      exact lesserF_or _ _
    · exact .inl rfl
  · exact .inl rfl
theorem stR_small {bs : List Bd} {N : Nat} (hok : Ok N bs) {n : Nat} {R : Nat → Int × Bool} {K : Int} (hK : 0 ≤ K) (h : ∀ v, -K ≤ (R v).1 ∧ (R v).1 ≤ K) (j : Nat) (hj : j ≤ bs.length) (v : Nat) : -(K + 1000000) ≤ (stR bs R n j v).1 ∧ (stR bs R n j v).1 ≤ K + 1000000 := by
  induction j with
  | zero => show -(K + 1000000) ≤ (0 : Int) ∧ (0 : Int) ≤ K + 1000000; omega
  | succ j ih =>
    have ih := ih (by omega)
    by_cases hn : n ≤ j
    · rw [stR_succ hn]
      have hb := (hok.each _ (bd_mem (show j < bs.length by omega))).2.2
      rcases stS_or R (stR bs R n j) (bd bs j) v with e | e
      · rw [e]; exact ih
      · rw [e]
        have := h (bd bs j).t.toNat
        dsimp only
        omega
    · rw [stR_start (by omega)]
      show -(K + 1000000) ≤ (0 : Int) ∧ (0 : Int) ≤ K + 1000000
      omega
theorem rowG_small {bs : List Bd} {N : Nat} (hok : Ok N bs) (n b k v : Nat) : -(1000000 * (k : Int)) ≤ (rowG bs n b k v).1 ∧ (rowG bs n b k v).1 ≤ 1000000 * (k : Int) := by
  induction k generalizing v with
  | zero =>
    show _ ≤ (st0 b v).1 ∧ (st0 b v).1 ≤ _
    unfold st0 fr0
    split <;> simp
  | succ k ih =>
    have := stR_small hok (n := n) (K := 1000000 * (k : Int)) (by omega) ih bs.length (Nat.le_refl _) v
    show _ ≤ (stR bs (rowG bs n b k) n bs.length v).1 ∧ (stR bs (rowG bs n b k) n bs.length v).1 ≤ _
    omega

/-! ### The reference's follow -/
def folP (bs : List Bd) (n : Nat) (R : Nat → Int × Bool) (p : Nat) (most : Int) (i : Nat) : Bool := decide (n ≤ i) && (decide ((bd bs i).f = (p : Int)) && ((R (bd bs i).t.toNat).2 && decide ((bd bs i).m + (R (bd bs i).t.toNat).1 ≤ most)))
def folF (bs : List Bd) (n : Nat) (R : Nat → Nat → Int × Bool) : Nat → Nat → Int → List Nat
  | 0, _, _ => []
  | k + 1, p, most => match (List.range bs.length).find? (folP bs n (R k) p most) with
    | none => folF bs n R k p most
    | some i => i :: folF bs n R k (bd bs i).t.toNat (most - (bd bs i).m)
theorem folF_none {bs : List Bd} {n : Nat} {R : Nat → Nat → Int × Bool} {k p : Nat} {most : Int} (h : (List.range bs.length).find? (folP bs n (R k) p most) = none) : folF bs n R (k + 1) p most = folF bs n R k p most := by rw [folF, h]
theorem folF_some {bs : List Bd} {n : Nat} {R : Nat → Nat → Int × Bool} {k p i : Nat} {most : Int} (h : (List.range bs.length).find? (folP bs n (R k) p most) = some i) : folF bs n R (k + 1) p most = i :: folF bs n R k (bd bs i).t.toNat (most - (bd bs i).m) := by rw [folF, h]
theorem folF_fp {bs : List Bd} {N : Nat} (hok : Ok N bs) (hl : ∀ b ∈ bs, b.gone = false) {n b : Nat} (k p : Nat) (hp : p < N) (most : Int) (h : ∃ l, PS bs n k p b most l) : FP bs n k p b most (folF bs n (rowG bs n b) k p most) := by
  induction k generalizing p most with
  | zero =>
    obtain ⟨l, h1, h2, h3⟩ := h
    have : l = [] := List.length_eq_zero_iff.1 h2
    subst this
    exact ⟨⟨h1, rfl, fun i hi => by cases hi⟩, fun l' _ => trivial⟩
  | succ k ih =>
    have r0 := rowG_ok hl n b k
    have key : ∀ i, i < bs.length → (folP bs n (rowG bs n b k) p most i = true ↔ n ≤ i ∧ Lv1 bs i ∧ (bd bs i).f.toNat = p ∧ ∃ l, PS bs n k (bd bs i).t.toNat b (most - (bd bs i).m) l) := fun i hi => by
      have hlv : Lv1 bs i := ⟨hi, hl _ (bd_mem hi)⟩
      have hb := (hok.each _ (bd_mem hi)).1
      simp only [folP, Bool.and_eq_true, decide_eq_true_eq]
      refine ⟨fun ⟨a, c, d, e⟩ => ⟨a, hlv, by omega, ?_⟩, fun ⟨a, _, c, l, ⟨s, h1, h2⟩, h3, h4⟩ => ⟨a, by omega, ?_⟩⟩
      · obtain ⟨l, h1, h2, h3⟩ := r0.some _ d
        exact ⟨l, ⟨_, h1, by omega⟩, h2, h3⟩
      · obtain ⟨h5, h6⟩ := r0.le _ _ _ h1 h3 h4
        exact ⟨h5, by omega⟩
    obtain ⟨l, hps⟩ := h
    cases l with
    | nil => exact hps.not_nil.elim
    | cons i0 l0 =>
      obtain ⟨a, c, d, e⟩ := hps.cons_inv
      rcases hf : (List.range bs.length).find? (folP bs n (rowG bs n b k) p most) with _ | i
      · rw [List.find?_range_eq_none] at hf
        have := hf i0 a.1
        rw [(key i0 a.1).2 ⟨d, a, c, _, e⟩] at this
        cases this
      · rw [folF_some hf]
        rw [List.find?_range_eq_some] at hf
        obtain ⟨h1, h2, h3⟩ := hf
        have h2' : i < bs.length := by simpa using h2
        obtain ⟨k1, k2, k3, k4⟩ := (key i h2').1 h1
        refine FP.cons k2 k3 k1 (ih _ (hok.pts k2).2.1 _ k4) fun j hj hnj hlj hjp l' hl' => ?_
        have := h3 j hj
        rw [(key j hlj.1).2 ⟨hnj, hlj, hjp, _, hl'⟩] at this
        cases this

end Go.Proofs.Yteiaofgkmgllcaa.Ln
