/-
  The plain mathematics of paths, distances, values that keep all bounds, first paths and shortest circles; what the laws say of the plain functions.
-/
import Derived.Test.YteiaofgkmgllcaaMath
set_option linter.unusedVariables false
set_option linter.unusedSimpArgs false
namespace Go.Proofs.Yteiaofgkmgllcaa.Ln

def Lv1 (bs : List Bd) (i : Nat) : Prop := i < bs.length ∧ (bd bs i).gone = false
theorem mem_idx {bs : List Bd} {p i : Nat} : i ∈ idx bs p ↔ Lv1 bs i ∧ (bd bs i).f = p := by
  simp only [idx, idxk, List.mem_filter, List.mem_range, Bool.and_eq_true, decide_eq_true_eq, Bool.not_eq_true', Lv1]
  constructor
  · rintro ⟨a, b, c⟩; exact ⟨⟨a, c⟩, b⟩
  · rintro ⟨⟨a, c⟩, b⟩; exact ⟨a, b, c⟩

/-- A list of bounds that leads from one point to another, and its sum. -/
inductive Pth (bs : List Bd) : Nat → List Nat → Nat → Int → Prop
  | nil (p : Nat) : Pth bs p [] p 0
  | cons {i : Nat} {l : List Nat} {q : Nat} {s : Int} (hi : Lv1 bs i) (h : Pth bs (bd bs i).t.toNat l q s) : Pth bs (bd bs i).f.toNat (i :: l) q ((bd bs i).m + s)

theorem Pth.cons' {bs : List Bd} {i p : Nat} {l : List Nat} {q : Nat} {s x : Int} (hi : Lv1 bs i) (hp : (bd bs i).f.toNat = p) (h : Pth bs (bd bs i).t.toNat l q s) (hx : x = (bd bs i).m + s) : Pth bs p (i :: l) q x := by
  subst hp; subst hx; exact .cons hi h
theorem Pth.cast {bs : List Bd} {p q : Nat} {l : List Nat} {s x : Int} (h : Pth bs p l q s) (hx : x = s) : Pth bs p l q x := by subst hx; exact h
theorem Pth.append {bs : List Bd} {p q r : Nat} {l k : List Nat} {s u : Int} (h : Pth bs p l q s) (h2 : Pth bs q k r u) : Pth bs p (l ++ k) r (s + u) := by
  induction h with
  | nil p => exact h2.cast (by omega)
  | cons hi h ih => exact (Pth.cons hi (ih h2)).cast (by omega)
theorem Pth.one {bs : List Bd} {i : Nat} (hi : Lv1 bs i) : Pth bs (bd bs i).f.toNat [i] (bd bs i).t.toNat (bd bs i).m := (Pth.cons hi (.nil _)).cast (by omega)
theorem Pth.live {bs : List Bd} {p q : Nat} {l : List Nat} {s : Int} (h : Pth bs p l q s) : ∀ i ∈ l, Lv1 bs i := by
  induction h with
  | nil p => intro i hi; cases hi
  | cons hi h ih =>
    intro j hj
    rcases List.mem_cons.1 hj with rfl | hj
    · exact hi
    · exact ih j hj

/-- No circle has a negative sum. -/
def NoNeg (bs : List Bd) : Prop := ∀ p l s, Pth bs p l p s → 0 ≤ s
/-- Values that keep all bounds. -/
def Pot (bs : List Bd) (y : Nat → Int) : Prop := ∀ i, Lv1 bs i → y (bd bs i).t.toNat ≤ y (bd bs i).f.toNat + (bd bs i).m
theorem Pot.path {bs : List Bd} {y : Nat → Int} (h : Pot bs y) {p q : Nat} {l : List Nat} {s : Int} (hp : Pth bs p l q s) : y q ≤ y p + s := by
  induction hp with
  | nil p => omega
  | cons hi _ ih => have := h _ hi; omega
theorem Pot.noNeg {bs : List Bd} {y : Nat → Int} (h : Pot bs y) : NoNeg bs := fun p l s hp => by have := h.path hp; omega

/-! ### Simple paths -/
def vsF (bs : List Bd) (p : Nat) (l : List Nat) : List Nat := p :: l.map (fun i => (bd bs i).t.toNat)
theorem split_at {bs : List Bd} {p q r : Nat} {l : List Nat} {s : Int} (h : Pth bs p l q s) (hr : r ∈ vsF bs p l) (hn : (vsF bs p l).Nodup) :
    ∃ l1 l2 s1 s2, Pth bs p l1 r s1 ∧ Pth bs r l2 q s2 ∧ s = s1 + s2 ∧ (vsF bs r l2).Nodup ∧ ∀ x ∈ l2, x ∈ l := by
  induction h with
  | nil p =>
    simp only [vsF, List.map_nil, List.mem_singleton] at hr
    subst hr
    exact ⟨[], [], 0, 0, .nil _, .nil _, by omega, hn, fun x hx => hx⟩
  | @cons i l q s hi h ih =>
    by_cases e : r = (bd bs i).f.toNat
    · subst e
      exact ⟨[], i :: l, 0, _, .nil _, .cons hi h, by omega, hn, fun x hx => hx⟩
    · have hr' : r ∈ vsF bs (bd bs i).t.toNat l := by
        rcases List.mem_cons.1 hr with h' | h'
        · exact absurd h' e
        · exact h'
      have hn' : (vsF bs (bd bs i).t.toNat l).Nodup := (List.nodup_cons.1 hn).2
      obtain ⟨l1, l2, s1, s2, a, b, c, d, f⟩ := ih hr' hn'
      exact ⟨i :: l1, l2, _, s2, .cons hi a, b, by omega, d, fun x hx => List.mem_cons_of_mem _ (f x hx)⟩

theorem simple {bs : List Bd} (hN : NoNeg bs) {p q : Nat} {l : List Nat} {s : Int} (h : Pth bs p l q s) : ∃ l' s', Pth bs p l' q s' ∧ s' ≤ s ∧ (vsF bs p l').Nodup ∧ ∀ x ∈ l', x ∈ l := by
  induction h with
  | nil p => exact ⟨[], 0, .nil _, by omega, by simp [vsF], fun x hx => hx⟩
  | @cons i l q s hi h ih =>
    obtain ⟨l', s', h1, h2, h3, h4⟩ := ih
    by_cases e : (bd bs i).f.toNat ∈ vsF bs (bd bs i).t.toNat l'
    · obtain ⟨l1, l2, s1, s2, a, b, c, d, f⟩ := split_at h1 e h3
      have := hN _ _ _ (Pth.cons hi a)
      exact ⟨l2, s2, b, by omega, d, fun x hx => List.mem_cons_of_mem _ (h4 x (f x hx))⟩
    · exact ⟨i :: l', _, .cons hi h1, by omega, List.nodup_cons.2 ⟨e, h3⟩, fun x hx => by
        rcases List.mem_cons.1 hx with rfl | hx
        · exact List.mem_cons_self
        · exact List.mem_cons_of_mem _ (h4 x hx)⟩

theorem pigeon {N : Nat} {l : List Nat} (hn : l.Nodup) (h : ∀ x ∈ l, x < N) : l.length ≤ N := by
  induction N generalizing l with
  | zero =>
    cases l with
    | nil => simp
    | cons x l => exact absurd (h x (by simp)) (by omega)
  | succ N ih =>
    have h1 := ih (l := l.erase N) (hn.erase _) (fun x hx => by
      have hx1 := List.mem_of_mem_erase hx
      have hx2 := (hn.mem_erase_iff.1 hx).1
      have := h x hx1
      omega)
    by_cases hm : N ∈ l
    · have := List.length_erase_of_mem hm; omega
    · rw [List.erase_of_not_mem hm] at h1; omega

theorem Ok.pts {N : Nat} {bs : List Bd} (hok : Ok N bs) {i : Nat} (hi : Lv1 bs i) : (bd bs i).f.toNat < N ∧ (bd bs i).t.toNat < N ∧ ((bd bs i).f.toNat : Int) = (bd bs i).f ∧ ((bd bs i).t.toNat : Int) = (bd bs i).t ∧ -1000000 ≤ (bd bs i).m ∧ (bd bs i).m ≤ 1000000 := by
  have := hok.each _ (bd_mem hi.1)
  omega
theorem vs_lt {N : Nat} {bs : List Bd} (hok : Ok N bs) {p q : Nat} {l : List Nat} {s : Int} (h : Pth bs p l q s) (hp : p < N) : ∀ x ∈ vsF bs p l, x < N := by
  intro x hx
  rcases List.mem_cons.1 hx with rfl | hx
  · exact hp
  · obtain ⟨i, hi, rfl⟩ := List.mem_map.1 hx
    exact (hok.pts (h.live i hi)).2.1
theorem Pth.lt {N : Nat} {bs : List Bd} (hok : Ok N bs) {p q : Nat} {l : List Nat} {s : Int} (h : Pth bs p l q s) (hp : p < N) : q < N := by
  induction h with
  | nil p => exact hp
  | cons hi h ih => exact ih (hok.pts hi).2.1
/-- Without a negative circle no path need be longer than there are other points. -/
theorem short {N : Nat} {bs : List Bd} (hok : Ok N bs) (hN : NoNeg bs) {p q : Nat} {l : List Nat} {s : Int} (h : Pth bs p l q s) (hp : p < N) : ∃ l' s', Pth bs p l' q s' ∧ s' ≤ s ∧ l'.length + 1 ≤ N ∧ ∀ x ∈ l', x ∈ l := by
  obtain ⟨l', s', h1, h2, h3, h4⟩ := simple hN h
  have := pigeon h3 (vs_lt hok h1 hp)
  exact ⟨l', s', h1, h2, by simpa [vsF] using this, h4⟩
theorem Pth.sum_le {N : Nat} {bs : List Bd} (hok : Ok N bs) {p q : Nat} {l : List Nat} {s : Int} (h : Pth bs p l q s) : -1000000 * (l.length : Int) ≤ s ∧ s ≤ 1000000 * (l.length : Int) := by
  induction h with
  | nil p => simp
  | cons hi h ih =>
    have := hok.pts hi
    simp only [List.length_cons]
    omega

/-! ### One round -/
def Le (d : List Int) : Prop := ∀ v, gt d v ≤ NONE
/-- What becomes of a state in a part of a round. -/
structure St (bs : List Bd) (d : List Int) (b : Bool) (d' : List Int) (b' : Bool) : Prop where
  len : d'.length = 128
  le : Le d'
  mono : ∀ v, gt d' v ≤ gt d v
  flag : b' = false → b = false ∧ d' = d
  strict : b' = true → b = true ∨ ∃ v, gt d' v < gt d v
  ways : ∀ R : Nat → Int → Prop, (∀ i, Lv1 bs i → ∀ s, R (bd bs i).f.toNat s → R (bd bs i).t.toNat (s + (bd bs i).m)) → (∀ v, gt d v ≠ NONE → R v (gt d v)) → ∀ v, gt d' v ≠ NONE → R v (gt d' v)

theorem St.refl {bs : List Bd} {d : List Int} {b : Bool} (hl : d.length = 128) (hle : Le d) : St bs d b d b :=
  ⟨hl, hle, fun _ => Int.le_refl _, fun h => ⟨h, rfl⟩, fun h => .inl h, fun _ _ h => h⟩
theorem St.trans {bs : List Bd} {d d' d'' : List Int} {b b' b'' : Bool} (h : St bs d b d' b') (k : St bs d' b' d'' b'') : St bs d b d'' b'' := by
  refine ⟨k.len, k.le, fun v => Int.le_trans (k.mono v) (h.mono v), fun e => ?_, fun e => ?_, fun R hc h0 => k.ways R hc (h.ways R hc h0)⟩
  · obtain ⟨e1, e2⟩ := k.flag e
    obtain ⟨e3, e4⟩ := h.flag e1
    exact ⟨e3, e2.trans e4⟩
  · rcases k.strict e with e1 | ⟨v, hv⟩
    · rcases h.strict e1 with e2 | ⟨v, hv⟩
      · exact .inl e2
      · exact .inr ⟨v, by have := k.mono v; omega⟩
    · exact .inr ⟨v, by have := h.mono v; omega⟩

theorem relax_st {bs : List Bd} {N : Nat} (hok : Ok N bs) {s : List Int × Bool} {i : Nat} (hi : Lv1 bs i) (hl : s.1.length = 128) (hle : Le s.1) (hne : gt s.1 (bd bs i).f.toNat ≠ NONE) :
    St bs s.1 s.2 (relax s (bd bs i)).1 (relax s (bd bs i)).2 ∧ gt (relax s (bd bs i)).1 (bd bs i).t.toNat ≤ gt s.1 (bd bs i).f.toNat + (bd bs i).m := by
  obtain ⟨hf, ht, _⟩ := hok.pts hi
  have htop := hok.top
  have hlt : (bd bs i).t.toNat < s.1.length := by omega
  unfold relax
  split
  · rename_i h
    refine ⟨⟨by simp [hl], fun v => ?_, fun v => ?_, fun e => (by cases e), fun _ => .inr ⟨(bd bs i).t.toNat, ?_⟩, fun R hc h0 v => ?_⟩, ?_⟩
    · show gt (s.1.set _ _) v ≤ NONE
      rw [gt_set _ _ _ _ hlt]
      have := hle (bd bs i).t.toNat
      split
      · omega
      · exact hle v
    · show gt (s.1.set _ _) v ≤ _
      rw [gt_set _ _ _ _ hlt]
      split
      · rename_i e; subst e; omega
      · exact Int.le_refl _
    · show gt (s.1.set _ _) _ < _
      rw [gt_set _ _ _ _ hlt, if_pos rfl]
      exact h
    · show gt (s.1.set _ _) v ≠ NONE → R v (gt (s.1.set _ _) v)
      rw [gt_set _ _ _ _ hlt]
      split
      · rename_i e
        intro _
        rw [e]
        exact hc i hi _ (h0 _ hne)
      · exact h0 v
    · show gt (s.1.set _ _) _ ≤ _
      rw [gt_set _ _ _ _ hlt, if_pos rfl]
      exact Int.le_refl _
  · exact ⟨.refl hl hle, by omega⟩

theorem relaxL_st {bs : List Bd} {N : Nat} (hok : Ok N bs) {p : Nat} (l : List Nat) (hl : ∀ i ∈ l, i ∈ idx bs p) (s : List Int × Bool) (hlen : s.1.length = 128) (hle : Le s.1) (hne : gt s.1 p ≠ NONE) :
    St bs s.1 s.2 (relaxL bs l s).1 (relaxL bs l s).2 ∧ ∀ i ∈ l, gt (relaxL bs l s).1 (bd bs i).t.toNat ≤ gt s.1 p + (bd bs i).m := by
  induction l generalizing s with
  | nil => exact ⟨.refl hlen hle, fun i hi => by cases hi⟩
  | cons i l ih =>
    obtain ⟨hi, hf⟩ := mem_idx.1 (hl i (by simp))
    have hfp : (bd bs i).f.toNat = p := by omega
    obtain ⟨h1, h2⟩ := relax_st hok (s := s) hi hlen hle (by rw [hfp]; exact hne)
    rw [hfp] at h2
    have hmono := h1.mono p
    have hlep := hle p
    obtain ⟨h3, h4⟩ := ih (fun j hj => hl j (by simp [hj])) (relax s (bd bs i)) h1.len h1.le (by omega)
    refine ⟨h1.trans h3, fun j hj => ?_⟩
    rcases List.mem_cons.1 hj with rfl | hj
    · exact Int.le_trans (h3.mono _) h2
    · have := h4 j hj
      show gt (relaxL bs l (relax s (bd bs i))).1 _ ≤ _
      omega

theorem roundF_st {bs : List Bd} {N : Nat} (hok : Ok N bs) (s : List Int × Bool) (hlen : s.1.length = 128) (hle : Le s.1) (k : Nat) (hk : k ≤ N) :
    St bs s.1 s.2 (roundF bs k s).1 (roundF bs k s).2 ∧ ∀ i, Lv1 bs i → (bd bs i).f.toNat < k → gt s.1 (bd bs i).f.toNat ≠ NONE → gt (roundF bs k s).1 (bd bs i).t.toNat ≤ gt s.1 (bd bs i).f.toNat + (bd bs i).m := by
  induction k with
  | zero => exact ⟨.refl hlen hle, fun i _ h => by omega⟩
  | succ k ih =>
    obtain ⟨h1, h2⟩ := ih (by omega)
    rw [roundF_succ]
    unfold relaxP
    split
    · rename_i hn
      refine ⟨h1, fun i hi hf hne => ?_⟩
      rcases Nat.lt_or_ge (bd bs i).f.toNat k with h | h
      · exact h2 i hi h hne
      · have e : (bd bs i).f.toNat = k := by omega
        rw [e] at hne
        have := h1.mono k
        have := hle k
        omega
    · rename_i hn
      obtain ⟨h3, h4⟩ := relaxL_st hok (idx bs k) (fun i hi => hi) (roundF bs k s) h1.len h1.le hn
      refine ⟨h1.trans h3, fun i hi hf hne => ?_⟩
      rcases Nat.lt_or_ge (bd bs i).f.toNat k with h | h
      · exact Int.le_trans (h3.mono _) (h2 i hi h hne)
      · have e : (bd bs i).f.toNat = k := by omega
        have hf' := hok.pts hi
        have := h4 i (mem_idx.2 ⟨hi, by omega⟩)
        have := h1.mono k
        rw [e]
        omega

theorem Sm.all {K : Int} {d : List Int} (h : Sm K d) (h0 : 0 ≤ K) (v : Nat) : gt d v = NONE ∨ gt d v ≤ K := by
  by_cases hk : v < d.length
  · exact (h.at_ hk).imp id (fun h => h.2)
  · exact .inr (by rw [show gt d v = 0 by simp [gt, show d.length ≤ v by omega]]; exact h0)

/-! ### Rounds until they rest -/
def Rest (bs : List Bd) (d : List Int) : Prop := ∀ i, Lv1 bs i → gt d (bd bs i).f.toNat ≠ NONE → gt d (bd bs i).t.toNat ≤ gt d (bd bs i).f.toNat + (bd bs i).m

theorem Rest.path {bs : List Bd} {d : List Int} (h : Rest bs d) {N : Nat} (hok : Ok N bs) {K : Int} (hs : ∀ v, gt d v = NONE ∨ gt d v ≤ K) {p q : Nat} {l : List Nat} {s : Int} (hp : Pth bs p l q s) (hne : gt d p ≠ NONE) (hK : K + 1000000 * (l.length : Int) < NONE) :
    gt d q ≠ NONE ∧ gt d q ≤ gt d p + s := by
  induction hp with
  | nil p => exact ⟨hne, by omega⟩
  | @cons i l q s hi hp ih =>
    have h1 := h i hi hne
    have h2 := hok.pts hi
    simp only [List.length_cons] at hK
    have h3 : gt d (bd bs i).t.toNat ≠ NONE := by
      have := (hs (bd bs i).f.toNat).resolve_left hne
      omega
    obtain ⟨h4, h5⟩ := ih h3 (by omega)
    exact ⟨h4, by omega⟩

/-- Some r rounds (fewer, if they rest). -/
theorem settleF_st {bs : List Bd} {N : Nat} (hok : Ok N bs) (r : Nat) (d : List Int) (hlen : d.length = 128) (hle : Le d) (K : Int) (hsm : Sm K d) (h0 : 0 ≤ K) (hK : K + 256256000000 * (r : Int) ≤ 100000000000000000) :
    (settleF bs N r d).1.length = 128 ∧ Le (settleF bs N r d).1 ∧ (∀ v, gt (settleF bs N r d).1 v ≤ gt d v) ∧
    (∀ R : Nat → Int → Prop, (∀ i, Lv1 bs i → ∀ s, R (bd bs i).f.toNat s → R (bd bs i).t.toNat (s + (bd bs i).m)) → (∀ v, gt d v ≠ NONE → R v (gt d v)) → ∀ v, gt (settleF bs N r d).1 v ≠ NONE → R v (gt (settleF bs N r d).1 v)) ∧
    ((settleF bs N r d).2 = true → Rest bs (settleF bs N r d).1) ∧
    (∀ p l q s, Pth bs p l q s → l.length ≤ r → gt d p ≠ NONE → (settleF bs N r d).2 = false → gt (settleF bs N r d).1 q ≤ gt d p + s) ∧
    ((settleF bs N r d).2 = false → 0 < r → ∃ v, gt (settleF bs N r d).1 v ≠ NONE ∧ ∀ p l s, Pth bs p l v s → l.length + 1 ≤ r → gt d p ≠ NONE → gt (settleF bs N r d).1 v < gt d p + s) := by
  induction r generalizing d K with
  | zero =>
    refine ⟨hlen, hle, fun _ => Int.le_refl _, fun R _ h => h, fun e => (by cases e), fun p l q s hp hl _ _ => ?_, fun _ h => by omega⟩
    cases hp with
    | nil p => show gt d _ ≤ _; omega
    | cons => simp at hl
  | succ r ih =>
    obtain ⟨h1, h2⟩ := roundF_st hok (d, false) hlen hle N (Nat.le_refl _)
    have hs := hsm.all h0
    have hN : NONE = 9223372036854775807 := rfl
    have htop := hok.top
    rw [settleF]
    split
    · rename_i hb
      obtain ⟨D, hD⟩ : ∃ D, (roundF bs N (d, false)).1 = D := ⟨_, rfl⟩
      rw [hD] at h1 h2 ⊢
      have hs1 : Sm (K + 256256000000) D := by
        have := (roundF_small hok (s := (d, false)) N (Nat.le_refl _) ⟨hlen, hsm⟩ h0 (by omega)).2
        rw [hD] at this
        exact this.mono (by omega)
      obtain ⟨g1, g2, g3, g4, g5, g6, g7⟩ := ih D h1.len h1.le (K + 256256000000) hs1 (by omega) (by omega)
      refine ⟨g1, g2, fun v => Int.le_trans (g3 v) (h1.mono v), fun R hc h0 => g4 R hc (h1.ways R hc h0), g5, ?_, ?_⟩
      · intro p l q s hp hl hne hf
        cases hp with
        | nil p => have := g3 p; have := h1.mono p; dsimp only at this; omega
        | @cons i l q s hi hp =>
          have hpts := hok.pts hi
          have e1 := h2 i hi hpts.1 hne
          dsimp only at e1
          have hK1 := (hs (bd bs i).f.toNat).resolve_left hne
          simp only [List.length_cons] at hl
          have := g6 _ _ _ _ hp (by omega) (by omega) hf
          omega
      · intro hf _
        by_cases hr : 0 < r
        · obtain ⟨v, hv, hlow⟩ := g7 hf hr
          refine ⟨v, hv, fun p l s hp hl hne => ?_⟩
          cases hp with
          | nil p =>
            have hm := h1.mono v
            dsimp only at hm
            have := hlow v [] 0 (.nil _) (by simp; omega) (by have := hle v; omega)
            omega
          | @cons i l q s hi hp =>
            have hpts := hok.pts hi
            have e1 := h2 i hi hpts.1 hne
            dsimp only at e1
            have hK1 := (hs (bd bs i).f.toNat).resolve_left hne
            simp only [List.length_cons] at hl
            have := hlow _ _ _ hp (by omega) (by omega)
            omega
        · obtain rfl : r = 0 := by omega
          rcases h1.strict (by rw [hb]) with e | ⟨v, hv⟩
          · cases e
          · dsimp only at hv
            refine ⟨v, ?_, fun p l s hp hl hne => ?_⟩
            · show gt D v ≠ NONE
              have := hle v
              omega
            · cases hp with
              | nil p => show gt D v < _; omega
              | cons => simp at hl
    · rename_i hb
      have hb' : (roundF bs N (d, false)).2 = false := by simpa using hb
      obtain ⟨_, e⟩ := h1.flag hb'
      dsimp only at e
      refine ⟨h1.len, h1.le, h1.mono, h1.ways, fun _ => ?_, fun p l q s _ _ _ h => (by cases h), fun h => by cases h⟩
      intro i hi hne
      dsimp only at hne ⊢
      have := h2 i hi (hok.pts hi).1
      dsimp only at this
      rw [e] at hne this ⊢
      exact this hne

end Go.Proofs.Yteiaofgkmgllcaa.Ln

namespace Go.Proofs.Yteiaofgkmgllcaa.Ln

theorem gt_rep {n v : Nat} (h : v < n) (x : Int) : gt (List.replicate n x) v = x := by
  unfold gt
  rw [List.getD_eq_getElem?_getD, List.getElem?_replicate, if_pos h]
  rfl
theorem zeros_at (v : Nat) : gt zeros v = 0 := by
  by_cases h : v < 128
  · exact gt_rep h 0
  · simp [gt, zeros_length, show 128 ≤ v by omega]
theorem start_at {a v : Nat} (ha : a < 128) (hv : v < 128) : gt (nones.set a 0) v = if v = a then 0 else NONE := by
  rw [gt_set _ _ _ _ (by rw [nones_length]; exact ha)]
  split
  · rfl
  · exact gt_rep hv NONE
theorem le_of_sm {K : Int} {d : List Int} (h : Sm K d) (h0 : 0 ≤ K) (hK : K ≤ NONE) : Le d := fun v => by
  rcases h.all h0 v with e | e <;> omega

/-- What a settling from a start says, in one: the start has numbers at some points, no path behind the others. -/
theorem settle_no {bs : List Bd} {N : Nat} (hok : Ok N bs) (d : List Int) (hlen : d.length = 128) (hsm : Sm 0 d) (hlt : ∀ v, v < 128 → gt d v ≠ NONE → v < N ∨ NoNeg bs → True) (hb : (settleF bs N N d).2 = false)
    (hp : ∀ v, gt d v ≠ NONE → v < N ∨ ∀ l q s, Pth bs v l q s → l = []) : ¬ NoNeg bs := by
  intro hN
  have hNN : NONE = 9223372036854775807 := rfl
  have htop := hok.top
  have hpos := hok.pos
  obtain ⟨g1, g2, g3, g4, g5, g6, g7⟩ := settleF_st hok N d hlen (le_of_sm hsm (by omega) (by omega)) 0 hsm (by omega) (by omega)
  obtain ⟨v, hv, hlow⟩ := g7 hb (by omega)
  have hR := g4 (fun v x => ∃ p l s, gt d p ≠ NONE ∧ Pth bs p l v s ∧ x = gt d p + s)
    (fun i hi s ⟨p, l, u, a, b, c⟩ => ⟨p, l ++ [i], u + (bd bs i).m, a, b.append (Pth.one hi), by omega⟩)
    (fun v hv => ⟨v, [], 0, hv, .nil _, by omega⟩) v hv
  obtain ⟨p, l, s, hne, hpath, hx⟩ := hR
  rcases hp p hne with hpN | hnil
  · obtain ⟨l', s', h1, h2, h3, _⟩ := short hok hN hpath hpN
    have := hlow p l' s' h1 h3 hne
    omega
  · have := hnil _ _ _ hpath
    subst this
    have := hlow p [] s hpath (by simp; omega) hne
    omega

theorem cons_of_noNeg {bs : List Bd} {N : Nat} (hok : Ok N bs) (h : NoNeg bs) : consF bs N = true := by
  rcases hb : consF bs N with _ | _
  · refine absurd h (settle_no hok zeros zeros_length zeros_small (fun _ _ _ _ => trivial) hb (fun v _ => ?_))
    by_cases hv : v < N
    · exact .inl hv
    · refine .inr fun l q s hp => ?_
      cases hp with
      | nil => rfl
      | cons hi => exact absurd (hok.pts hi).1 hv
  · rfl

theorem pot_of_cons {bs : List Bd} {N : Nat} (hok : Ok N bs) (h : consF bs N = true) : ∃ y, Pot bs y := by
  have hNN : NONE = 9223372036854775807 := rfl
  have htop := hok.top
  obtain ⟨g1, g2, g3, g4, g5, g6, g7⟩ := settleF_st hok N zeros zeros_length (le_of_sm zeros_small (by omega) (by omega)) 0 zeros_small (by omega) (by omega)
  refine ⟨gt (settleF bs N N zeros).1, fun i hi => g5 h i hi ?_⟩
  have := g3 (bd bs i).f.toNat
  rw [zeros_at] at this
  omega

theorem cons_iff {bs : List Bd} {N : Nat} (hok : Ok N bs) : consF bs N = true ↔ NoNeg bs :=
  ⟨fun h => by obtain ⟨y, hy⟩ := pot_of_cons hok h; exact hy.noNeg, cons_of_noNeg hok⟩
theorem cons_pot {bs : List Bd} {N : Nat} (hok : Ok N bs) : consF bs N = true ↔ ∃ y, Pot bs y :=
  ⟨pot_of_cons hok, fun ⟨y, hy⟩ => cons_of_noNeg hok hy.noNeg⟩

/-- Distances: NONE where there is no path, and else the least sum of all paths. -/
structure DistOk (bs : List Bd) (a : Nat) (D : List Int) : Prop where
  le : ∀ l v s, Pth bs a l v s → gt D v ≠ NONE ∧ gt D v ≤ s
  some : ∀ v, v < 128 → gt D v ≠ NONE → ∃ l, Pth bs a l v (gt D v)
theorem dist_ok {bs : List Bd} {N : Nat} (hok : Ok N bs) (h : NoNeg bs) {a : Nat} (ha : a < N) : DistOk bs a (distF bs N a) := by
  have hNN : NONE = 9223372036854775807 := rfl
  have htop := hok.top
  obtain ⟨g1, g2, g3, g4, g5, g6, g7⟩ := settleF_st hok N (nones.set a 0) (start_length a) (le_of_sm (start_small a) (by omega) (by omega)) 0 (start_small a) (by omega) (by omega)
  have hstart : ∀ v, v < 128 → gt (nones.set a 0) v ≠ NONE → v = a := fun v hv hne => by
    rw [start_at (by omega) hv] at hne
    split at hne
    · assumption
    · exact absurd rfl hne
  have hrest : (settleF bs N N (nones.set a 0)).2 = true := by
    rcases hb : (settleF bs N N (nones.set a 0)).2 with _ | _
    · refine absurd h (settle_no hok _ (start_length a) (start_small a) (fun _ _ _ _ => trivial) hb (fun v hne => ?_))
      by_cases hv : v < N
      · exact .inl hv
      · refine .inr fun l q s hp => ?_
        cases hp with
        | nil => rfl
        | cons hi => exact absurd (hok.pts hi).1 hv
    · rfl
  have hR := g5 hrest
  have ha0 : gt (distF bs N a) a ≤ 0 := by
    have := g3 a
    rw [start_at (by omega) (by omega), if_pos rfl] at this
    exact this
  refine ⟨fun l v s hp => ?_, fun v hv hne => ?_⟩
  · obtain ⟨l', s', h1, h2, h3, _⟩ := short hok h hp ha
    have hsm := (distF_small hok a).2.all (by omega)
    have := Rest.path (d := distF bs N a) hR hok hsm h1 (by omega) (by omega)
    exact ⟨this.1, by omega⟩
  · obtain ⟨p, l, s, h1, h2, h3, h4⟩ := g4 (fun v x => v < 128 → ∃ p l s, p < 128 ∧ gt (nones.set a 0) p ≠ NONE ∧ Pth bs p l v s ∧ x = gt (nones.set a 0) p + s)
      (fun i hi s hr _ => by
        have hpt := hok.pts hi
        obtain ⟨p, l, u, a1, a2, b, c⟩ := hr (by omega)
        exact ⟨p, l ++ [i], u + (bd bs i).m, a1, a2, b.append (Pth.one hi), by omega⟩)
      (fun v hv hlt => ⟨v, [], 0, hlt, hv, .nil _, by omega⟩) v hne hv
    have hpa := hstart p h1 h2
    subst hpa
    rw [start_at (by omega) (by omega), if_pos rfl] at h4
    exact ⟨l, h3.cast (by show gt (settleF bs N N (nones.set p 0)).1 v = s; omega)⟩

theorem DistOk.self {bs : List Bd} {a : Nat} {D : List Int} (h : DistOk bs a D) (hN : NoNeg bs) (ha : a < 128) : gt D a = 0 := by
  obtain ⟨h1, h2⟩ := h.le [] a 0 (.nil _)
  obtain ⟨l, hl⟩ := h.some a ha h1
  have := hN _ _ _ hl
  omega
/-- Going on along one bound. -/
theorem DistOk.edge {bs : List Bd} {N : Nat} (hok : Ok N bs) {a : Nat} {D : List Int} (h : DistOk bs a D) {i : Nat} (hi : Lv1 bs i) (hne : gt D (bd bs i).f.toNat ≠ NONE) : gt D (bd bs i).t.toNat ≠ NONE ∧ gt D (bd bs i).t.toNat ≤ gt D (bd bs i).f.toNat + (bd bs i).m := by
  have hp := hok.pts hi
  have := hok.top
  obtain ⟨l, hl⟩ := h.some _ (by omega) hne
  exact h.le _ _ _ (hl.append (Pth.one hi))
theorem DistOk.tri {bs : List Bd} {a b : Nat} {D E : List Int} (h : DistOk bs a D) (k : DistOk bs b E) {v : Nat} (hb : b < 128) (hv : v < 128) (h1 : gt D b ≠ NONE) (h2 : gt E v ≠ NONE) : gt D v ≠ NONE ∧ gt D v ≤ gt D b + gt E v := by
  obtain ⟨l, hl⟩ := h.some b hb h1
  obtain ⟨m, hm⟩ := k.some v hv h2
  exact h.le _ _ _ (hl.append hm)
theorem DistOk.pot {bs : List Bd} {a v : Nat} {D : List Int} (h : DistOk bs a D) (hv : v < 128) (hne : gt D v ≠ NONE) {y : Nat → Int} (hy : Pot bs y) : y v ≤ y a + gt D v := by
  obtain ⟨l, hl⟩ := h.some v hv hne
  exact hy.path hl

/-! ### Values that keep all bounds, made of distances -/
theorem Pot.min {bs : List Bd} {y z : Nat → Int} (h : Pot bs y) (k : Pot bs z) : Pot bs (fun v => Min.min (y v) (z v)) := fun i hi => by
  have := h i hi
  have := k i hi
  dsimp only
  omega
theorem Pot.shift {bs : List Bd} {y : Nat → Int} (h : Pot bs y) (c : Int) : Pot bs (fun v => y v + c) := fun i hi => by
  have := h i hi
  dsimp only
  omega
/-- The distances from a, where there are any, lowered to other values. -/
def capF (D : List Int) (c : Int) (z : Nat → Int) (v : Nat) : Int := if gt D v = NONE then z v else Min.min (gt D v + c) (z v)
theorem capF_pot {bs : List Bd} {N : Nat} (hok : Ok N bs) {a : Nat} {D : List Int} (h : DistOk bs a D) (c : Int) {z : Nat → Int} (hz : Pot bs z) : Pot bs (capF D c z) := fun i hi => by
  have h1 := hz i hi
  have h2 := h.edge hok hi
  unfold capF
  by_cases e : gt D (bd bs i).f.toNat = NONE
  · rw [if_pos e]
    split <;> omega
  · obtain ⟨h3, h4⟩ := h2 e
    rw [if_neg e, if_neg h3]
    omega
theorem capF_le {D : List Int} {c : Int} {z : Nat → Int} {v : Nat} : capF D c z v ≤ z v := by unfold capF; split <;> omega
theorem capF_at {D : List Int} {c : Int} {z : Nat → Int} {v : Nat} (h : gt D v ≠ NONE) : capF D c z v = Min.min (gt D v + c) (z v) := by rw [capF, if_neg h]

/-- A difference takes each value that the distances leave. -/
theorem pot_between {bs : List Bd} {N : Nat} (hok : Ok N bs) (hN : NoNeg bs) {a b : Nat} (ha : a < N) (hb : b < N) {d : Int} (h1 : gt (distF bs N a) b = NONE ∨ d ≤ gt (distF bs N a) b) (h2 : gt (distF bs N b) a = NONE ∨ -d ≤ gt (distF bs N b) a) :
    ∃ y, Pot bs y ∧ y b - y a = d := by
  obtain ⟨z, hz⟩ := pot_of_cons hok (cons_of_noNeg hok hN)
  have ht := hok.top
  have da := dist_ok hok hN ha
  have db := dist_ok hok hN hb
  have aa := da.self hN (by omega)
  have bb := db.self hN (by omega)
  have hNN : NONE = 9223372036854775807 := rfl
  -- z, so far up that it says nothing at a and b
  let C : Int := (if z a < 0 then -z a else 0) + (if z b < d then d - z b else 0)
  have hz2 := capF_pot hok db d (hz.shift C)
  have hy := capF_pot hok da 0 hz2
  refine ⟨_, hy, ?_⟩
  have e1 : capF (distF bs N b) d (fun v => z v + C) b = d := by
    rw [capF_at (by omega), bb]
    show Min.min (0 + d) (z b + C) = d
    dsimp only [C]
    split <;> split <;> omega
  have e2 : 0 ≤ capF (distF bs N b) d (fun v => z v + C) a := by
    unfold capF
    dsimp only [C]
    split
    · split <;> split <;> omega
    · rename_i hne
      have := h2.resolve_left hne
      split <;> split <;> omega
  have e3 : capF (distF bs N a) 0 (capF (distF bs N b) d fun v => z v + C) a = 0 := by
    rw [capF_at (by omega), aa]
    omega
  have e4 : capF (distF bs N a) 0 (capF (distF bs N b) d fun v => z v + C) b = d := by
    unfold capF at *
    split
    · exact e1
    · rename_i hne
      have := h1.resolve_left hne
      rw [e1]
      omega
  omega

end Go.Proofs.Yteiaofgkmgllcaa.Ln

namespace Go.Proofs.Yteiaofgkmgllcaa.Ln

theorem bd_app_left {bs cs : List Bd} {i : Nat} (h : i < bs.length) : bd (bs ++ cs) i = bd bs i := by
  rw [bd_eq (by simp; omega), bd_eq h, List.getElem_append_left h]
theorem bd_app_right {bs cs : List Bd} {i : Nat} (h : i < cs.length) : bd (bs ++ cs) (bs.length + i) = bd cs i := by
  rw [bd_eq (by simp; omega), bd_eq h, List.getElem_append_right (by omega)]
  congr 1
  omega
theorem lv1_app {bs cs : List Bd} {i : Nat} : Lv1 (bs ++ cs) i ↔ (Lv1 bs i) ∨ ∃ j, i = bs.length + j ∧ Lv1 cs j := by
  unfold Lv1
  constructor
  · rintro ⟨h1, h2⟩
    by_cases h : i < bs.length
    · rw [bd_app_left h] at h2
      exact .inl ⟨h, h2⟩
    · obtain ⟨j, rfl⟩ : ∃ j, i = bs.length + j := ⟨i - bs.length, by omega⟩
      have hj : j < cs.length := by simp at h1; omega
      rw [bd_app_right hj] at h2
      exact .inr ⟨j, rfl, hj, h2⟩
  · rintro (⟨h1, h2⟩ | ⟨j, rfl, h1, h2⟩)
    · exact ⟨by simp; omega, by rw [bd_app_left h1]; exact h2⟩
    · exact ⟨by simp; omega, by rw [bd_app_right h1]; exact h2⟩
theorem pot_app {bs cs : List Bd} {y : Nat → Int} : Pot (bs ++ cs) y ↔ Pot bs y ∧ Pot cs y := by
  constructor
  · intro h
    refine ⟨fun i hi => ?_, fun i hi => ?_⟩
    · have := h i (lv1_app.2 (.inl hi))
      rwa [bd_app_left hi.1] at this
    · have := h (bs.length + i) (lv1_app.2 (.inr ⟨i, rfl, hi⟩))
      rwa [bd_app_right hi.1] at this
  · rintro ⟨h, k⟩ i hi
    rcases lv1_app.1 hi with hi | ⟨j, rfl, hj⟩
    · rw [bd_app_left hi.1]; exact h i hi
    · rw [bd_app_right hj.1]; exact k j hj
theorem pot_one {b : Bd} (hb : b.gone = false) {y : Nat → Int} : Pot [b] y ↔ y b.t.toNat ≤ y b.f.toNat + b.m := by
  constructor
  · intro h
    exact h 0 ⟨by simp, by simpa [bd] using hb⟩
  · intro h i hi
    obtain rfl : i = 0 := by have := hi.1; simp at this; omega
    simpa [bd] using h

/-- Fewer values, closer distances. -/
theorem dist_le {bs cs : List Bd} {N : Nat} (hb : Ok N bs) (hc : Ok N cs) (hN : NoNeg bs) (hM : NoNeg cs) (h : ∀ y, Pot cs y → Pot bs y) {a v : Nat} (ha : a < N) (hv : v < N) (hne : gt (distF bs N a) v ≠ NONE) :
    gt (distF cs N a) v ≠ NONE ∧ gt (distF cs N a) v ≤ gt (distF bs N a) v := by
  have ht := hb.top
  have hNN : NONE = 9223372036854775807 := rfl
  have db := dist_ok hb hN ha
  have dc := dist_ok hc hM ha
  have ec := dist_ok hc hM hv
  have cyc : gt (distF cs N a) v ≠ NONE → gt (distF cs N v) a ≠ NONE → 0 ≤ gt (distF cs N a) v + gt (distF cs N v) a := fun h1 h2 => by
    have := dc.self hM (by omega)
    have := (dc.tri ec (by omega) (by omega) h1 h2).2
    omega
  by_cases h1 : gt (distF cs N a) v = NONE
  · exfalso
    -- no path there: a difference that is too great
    let d : Int := if gt (distF cs N v) a = NONE then gt (distF bs N a) v + 1 else Max.max (gt (distF bs N a) v + 1) (-(gt (distF cs N v) a))
    obtain ⟨y, hy, hd⟩ := pot_between hc hM ha hv (d := d) (.inl h1) (by
      by_cases e : gt (distF cs N v) a = NONE
      · exact .inl e
      · right; dsimp only [d]; rw [if_neg e]; omega)
    have := db.pot (by omega) hne (h y hy)
    dsimp only [d] at hd
    split at hd <;> omega
  · refine ⟨h1, ?_⟩
    obtain ⟨y, hy, hd⟩ := pot_between hc hM ha hv (d := gt (distF cs N a) v) (.inr (Int.le_refl _)) (by
      by_cases e : gt (distF cs N v) a = NONE
      · exact .inl e
      · right; have := cyc h1 e; omega)
    have := db.pot (by omega) hne (h y hy)
    omega
theorem dist_eq {bs cs : List Bd} {N : Nat} (hb : Ok N bs) (hc : Ok N cs) (hN : NoNeg bs) (hM : NoNeg cs) (h : ∀ y, Pot cs y ↔ Pot bs y) {a v : Nat} (ha : a < N) (hv : v < N) : gt (distF bs N a) v = gt (distF cs N a) v := by
  have h1 := dist_le hb hc hN hM (fun y => (h y).1) ha hv
  have h2 := dist_le hc hb hM hN (fun y => (h y).2) ha hv
  by_cases e : gt (distF bs N a) v = NONE
  · by_cases e2 : gt (distF cs N a) v = NONE
    · rw [e, e2]
    · exact absurd e (h2 e2).1
  · have := h1 e
    have := h2 this.1
    omega

theorem cons_eq {bs cs : List Bd} {N : Nat} (hb : Ok N bs) (hc : Ok N cs) (h : ∀ y, Pot cs y ↔ Pot bs y) : consF bs N = consF cs N := by
  have h1 := cons_pot hb
  have h2 := cons_pot hc
  rcases e : consF bs N with _ | _ <;> rcases e2 : consF cs N with _ | _
  · rfl
  · obtain ⟨y, hy⟩ := h2.1 e2
    have := h1.2 ⟨y, (h y).1 hy⟩
    rw [e] at this; cases this
  · obtain ⟨y, hy⟩ := h1.1 e
    have := h2.2 ⟨y, (h y).2 hy⟩
    rw [e2] at this; cases this
  · rfl
theorem cons_more {bs cs : List Bd} {N : Nat} (hb : Ok N bs) (hc : Ok N (bs ++ cs)) (h : consF (bs ++ cs) N = true) : consF bs N = true := by
  obtain ⟨y, hy⟩ := (cons_pot hc).1 h
  exact (cons_pot hb).2 ⟨y, (pot_app.1 hy).1⟩

theorem check_len {N : Int} {bs : List Bd} (h : check N bs = 0) : bs.length ≤ 2000 ∧ N ≤ 128 ∧ 1 ≤ N := by
  unfold check at h
  split at h
  · cases h
  · split at h
    · cases h
    · omega
theorem check_valid {N : Int} {bs : List Bd} (h : check N bs = 0) : ∀ b ∈ bs, valid N b = true := by
  unfold check at h
  split at h
  · cases h
  · split at h
    · cases h
    · split at h
      · rename_i h3; exact fun b hb => List.all_eq_true.1 h3 b hb
      · cases h
theorem check_mk {N : Int} {bs : List Bd} (h1 : bs.length ≤ 2000) (h2 : N ≤ 128) (h3 : 1 ≤ N) (h4 : ∀ b ∈ bs, valid N b = true) : check N bs = 0 := by
  rw [check, if_neg (by omega), if_neg (by omega), if_pos (List.all_eq_true.2 h4)]

/-- One more bound against a distance: at it there are values, beyond it none. -/
theorem ends_one {N : Int} {bs : List Bd} (hc : check N bs = 0) (hlen : bs.length < 2000) (hl : ∀ b ∈ bs, b.gone = false) {a b : Int} (hs : soundF N bs [a, b] = 0) (hne : dF N bs a b ≠ NONE) (hab : a ≠ b) (h1 : -999999 ≤ dF N bs a b) (h2 : dF N bs a b ≤ 999999) :
    check N (bs ++ [⟨b, a, -(dF N bs a b), 0, false⟩]) = 0 ∧ consF (bs ++ [⟨b, a, -(dF N bs a b), 0, false⟩]) N.toNat = true ∧
    check N (bs ++ [⟨b, a, -(dF N bs a b) - 1, 0, false⟩]) = 0 ∧ consF (bs ++ [⟨b, a, -(dF N bs a b) - 1, 0, false⟩]) N.toNat = false := by
  obtain ⟨l1, l2, l3⟩ := check_len hc
  have hcp : cpF N bs [a, b] = 0 := by
    unfold soundF at hs
    split at hs
    · assumption
    · exact hs
  have hco : consF bs N.toNat = true := by
    rcases h : consF bs N.toNat with _ | _
    · rw [soundF, if_pos hcp, if_neg (by rw [h]; simp)] at hs
      cases hs
    · rfl
  obtain ⟨a0, a1⟩ := pts_of hcp (p := a) (by simp)
  obtain ⟨b0, b1⟩ := pts_of hcp (p := b) (by simp)
  obtain ⟨hok, hNt⟩ := ok_of_check hc
  have hN := (cons_iff hok).1 hco
  have key : ∀ m, -1000000 ≤ m → m ≤ 1000000 → check N (bs ++ [⟨b, a, m, 0, false⟩]) = 0 := fun m m0 m1 => by
    refine check_mk (by simp; omega) l2 l3 (fun x hx => ?_)
    rcases List.mem_append.1 hx with hx | hx
    · exact check_valid hc x hx
    · obtain rfl : x = ⟨b, a, m, 0, false⟩ := by simpa using hx
      exact valid_iff.2 ⟨⟨b0, b1⟩, ⟨a0, a1⟩, fun e => hab e.symm, ⟨m0, m1⟩, Int.le_refl 0, (show (0 : Int) ≤ 1000000 by decide)⟩
  have k1 := key (-(dF N bs a b)) (by omega) (by omega)
  have k2 := key (-(dF N bs a b) - 1) (by omega) (by omega)
  have ht := hok.top
  have da := dist_ok hok hN (a := a.toNat) (by omega)
  have db := dist_ok hok hN (a := b.toNat) (by omega)
  have hd : dF N bs a b = gt (distF bs N.toNat a.toNat) b.toNat := rfl
  refine ⟨k1, (cons_pot (ok_of_check k1).1).2 ?_, k2, ?_⟩
  · obtain ⟨y, hy, he⟩ := pot_between hok hN (a := a.toNat) (b := b.toNat) (by omega) (by omega) (d := dF N bs a b) (.inr (by rw [hd]; exact Int.le_refl _)) (by
      by_cases e : gt (distF bs N.toNat b.toNat) a.toNat = NONE
      · exact .inl e
      · right
        have := da.self hN (by omega)
        have := (da.tri db (by omega) (by omega) (by rw [← hd]; exact hne) e).2
        omega)
    refine ⟨y, pot_app.2 ⟨hy, (pot_one rfl).2 ?_⟩⟩
    dsimp only
    omega
  · rcases h : consF (bs ++ [⟨b, a, -(dF N bs a b) - 1, 0, false⟩]) N.toNat with _ | _
    · exact h
    · obtain ⟨y, hy⟩ := (cons_pot (ok_of_check k2).1).1 h
      obtain ⟨y1, y2⟩ := pot_app.1 hy
      have y3 : y a.toNat ≤ y b.toNat + (-(dF N bs a b) - 1) := (pot_one rfl).1 y2
      have := da.pot (v := b.toNat) (by omega) (by rw [← hd]; exact hne) y1
      omega

end Go.Proofs.Yteiaofgkmgllcaa.Ln

namespace Go.Proofs.Yteiaofgkmgllcaa.Ln

/-- One end, as it stands after some of the given points. -/
structure EndOk (P : Nat → Prop) (f : Nat → Option Int) (le : Int → Int → Prop) (e : Int × Bool) : Prop where
  some : e.2 = true → ∃ g, P g ∧ f g = Option.some e.1
  all : ∀ g x, P g → f g = Option.some x → e.2 = true ∧ le x e.1

def loV (D y : List Int) (p g : Nat) : Option Int := if gt D (p * 128 + g) = NONE then none else some (gt y g - gt D (p * 128 + g))
def hiV (D y : List Int) (p g : Nat) : Option Int := if gt D (g * 128 + p) = NONE then none else some (gt y g + gt D (g * 128 + p))

theorem possS_lo {D y : List Int} {p g : Nat} {s : (Int × Bool) × (Int × Bool)} {P : Nat → Prop} (h : EndOk P (loV D y p) (· ≤ ·) s.1) : EndOk (fun k => P k ∨ k = g) (loV D y p) (· ≤ ·) (possS D y p s g).1 := by
  unfold possS
  dsimp only
  unfold aboveF lowF
  by_cases hn : gt D (p * 128 + g) = NONE
  · rw [if_pos hn]
    simp only [Bool.false_and, Bool.false_eq_true, if_false]
    refine ⟨fun e => ?_, fun k x hk hx => ?_⟩
    · obtain ⟨k, h1, h2⟩ := h.some e
      exact ⟨k, .inl h1, h2⟩
    · rcases hk with hk | rfl
      · exact h.all k x hk hx
      · rw [loV, if_pos hn] at hx; cases hx
  · rw [if_neg hn]
    simp only [Bool.true_and]
    have hg : loV D y p g = some (gt y g - gt D (p * 128 + g)) := by rw [loV, if_neg hn]
    split
    · rename_i hc
      refine ⟨fun _ => ⟨g, .inr rfl, hg⟩, fun k x hk hx => ⟨rfl, ?_⟩⟩
      rcases hk with hk | rfl
      · obtain ⟨e1, e2⟩ := h.all k x hk hx
        rw [e1] at hc
        simp only [Bool.not_true, Bool.false_or, decide_eq_true_eq] at hc
        dsimp only
        omega
      · rw [hg] at hx; cases hx; exact Int.le_refl _
    · rename_i hc
      refine ⟨fun e => ?_, fun k x hk hx => ?_⟩
      · obtain ⟨k, h1, h2⟩ := h.some e
        exact ⟨k, .inl h1, h2⟩
      · rcases hk with hk | rfl
        · exact h.all k x hk hx
        · rw [hg] at hx; cases hx
          simp only [Bool.or_eq_true, Bool.not_eq_true', decide_eq_true_eq, not_or] at hc
          exact ⟨by simpa using hc.1, by omega⟩
theorem possS_hi {D y : List Int} {p g : Nat} {s : (Int × Bool) × (Int × Bool)} {P : Nat → Prop} (h : EndOk P (hiV D y p) (fun a b => b ≤ a) s.2) : EndOk (fun k => P k ∨ k = g) (hiV D y p) (fun a b => b ≤ a) (possS D y p s g).2 := by
  unfold possS
  dsimp only
  unfold belowF highF
  by_cases hn : gt D (g * 128 + p) = NONE
  · rw [if_pos hn]
    simp only [Bool.false_and, Bool.false_eq_true, if_false]
    refine ⟨fun e => ?_, fun k x hk hx => ?_⟩
    · obtain ⟨k, h1, h2⟩ := h.some e
      exact ⟨k, .inl h1, h2⟩
    · rcases hk with hk | rfl
      · exact h.all k x hk hx
      · rw [hiV, if_pos hn] at hx; cases hx
  · rw [if_neg hn]
    simp only [Bool.true_and]
    have hg : hiV D y p g = some (gt y g + gt D (g * 128 + p)) := by rw [hiV, if_neg hn]
    split
    · rename_i hc
      refine ⟨fun _ => ⟨g, .inr rfl, hg⟩, fun k x hk hx => ⟨rfl, ?_⟩⟩
      rcases hk with hk | rfl
      · obtain ⟨e1, e2⟩ := h.all k x hk hx
        rw [e1] at hc
        simp only [Bool.not_true, Bool.false_or, decide_eq_true_eq] at hc
        dsimp only
        omega
      · rw [hg] at hx; cases hx; exact Int.le_refl _
    · rename_i hc
      refine ⟨fun e => ?_, fun k x hk hx => ?_⟩
      · obtain ⟨k, h1, h2⟩ := h.some e
        exact ⟨k, .inl h1, h2⟩
      · rcases hk with hk | rfl
        · exact h.all k x hk hx
        · rw [hg] at hx; cases hx
          simp only [Bool.or_eq_true, Bool.not_eq_true', decide_eq_true_eq, not_or] at hc
          exact ⟨by simpa using hc.1, by omega⟩

theorem EndOk.iff {P Q : Nat → Prop} {f : Nat → Option Int} {le : Int → Int → Prop} {e : Int × Bool} (h : EndOk P f le e) (hq : ∀ g, P g ↔ Q g) : EndOk Q f le e :=
  ⟨fun he => by obtain ⟨g, a, b⟩ := h.some he; exact ⟨g, (hq g).1 a, b⟩, fun g x a b => h.all g x ((hq g).2 a) b⟩

theorem possF_ok (D y : List Int) (p : Nat) (gs : List Nat) : EndOk (· ∈ gs) (loV D y p) (· ≤ ·) (possF D y p gs).1 ∧ EndOk (· ∈ gs) (hiV D y p) (fun a b => b ≤ a) (possF D y p gs).2 := by
  unfold possF
  have gen : ∀ (gs : List Nat) (P : Nat → Prop) (s : (Int × Bool) × (Int × Bool)), EndOk P (loV D y p) (· ≤ ·) s.1 → EndOk P (hiV D y p) (fun a b => b ≤ a) s.2 →
      EndOk (fun k => P k ∨ k ∈ gs) (loV D y p) (· ≤ ·) (gs.foldl (possS D y p) s).1 ∧ EndOk (fun k => P k ∨ k ∈ gs) (hiV D y p) (fun a b => b ≤ a) (gs.foldl (possS D y p) s).2 := by
    intro gs
    induction gs with
    | nil => intro P s h k; exact ⟨h.iff (fun g => by simp), k.iff (fun g => by simp)⟩
    | cons g gs ih =>
      intro P s h k
      obtain ⟨a, b⟩ := ih (fun k => P k ∨ k = g) (possS D y p s g) (possS_lo h) (possS_hi k)
      exact ⟨a.iff (fun j => by simp [or_assoc]), b.iff (fun j => by simp [or_assoc])⟩
  obtain ⟨a, b⟩ := gen gs (fun _ => False) ((0, false), (0, false)) ⟨fun e => (by cases e), fun _ _ h => h.elim⟩ ⟨fun e => (by cases e), fun _ _ h => h.elim⟩
  exact ⟨a.iff (fun g => by simp), b.iff (fun g => by simp)⟩

theorem lfzF_in {l h : Int × Bool} (hlh : l.2 = true → h.2 = true → l.1 ≤ h.1) : (l.2 = true → l.1 ≤ lfzF l h) ∧ (h.2 = true → lfzF l h ≤ h.1) := by
  unfold lfzF
  obtain ⟨l1, l2⟩ := l
  obtain ⟨h1, h2⟩ := h
  dsimp only at hlh ⊢
  cases l2 <;> cases h2 <;> simp at hlh ⊢ <;> omega

/-- What the values of some points keep. -/
structure VOk (cs : List Bd) (N : Nat) (s : List Int × List Nat) : Prop where
  len : s.1.length = N
  mem : ∀ g ∈ s.2, g < N
  keep : ∀ g ∈ s.2, ∀ h ∈ s.2, gt (distF cs N g) h ≠ NONE → gt s.1 h ≤ gt s.1 g + gt (distF cs N g) h

theorem valS_ok {cs : List Bd} {N : Nat} (hok : Ok N cs) (hN : NoNeg cs) {s : List Int × List Nat} (h : VOk cs N s) {p : Nat} (hp : p < N) (hnew : p ∉ s.2) : VOk cs N (valS (adF cs N) s p) := by
  have ht := hok.top
  have hlen := h.len
  obtain ⟨lo, hi⟩ := possF_ok (adF cs N) s.1 p s.2
  obtain ⟨r, hr⟩ : ∃ r, possF (adF cs N) s.1 p s.2 = r := ⟨_, rfl⟩
  rw [hr] at lo hi
  have dp := dist_ok hok hN hp
  have key : r.1.2 = true → r.2.2 = true → r.1.1 ≤ r.2.1 := fun e1 e2 => by
    obtain ⟨g, hg, eg⟩ := lo.some e1
    obtain ⟨k, hk, ek⟩ := hi.some e2
    have hgN := h.mem g hg
    have hkN := h.mem k hk
    rw [loV, adF_at hok hp (by omega)] at eg
    rw [hiV, adF_at hok hkN (by omega)] at ek
    split at eg
    · cases eg
    · rename_i n1
      split at ek
      · cases ek
      · rename_i n2
        simp only [Option.some.injEq] at eg ek
        have t := (dist_ok hok hN hkN).tri dp (by omega) (v := g) (by omega) n2 n1
        have := h.keep k hk g hg t.1
        omega
  obtain ⟨z1, z2⟩ := lfzF_in key
  have hv : valS (adF cs N) s p = (s.1.set p (lfzF r.1 r.2), s.2 ++ [p]) := by rw [valS, hr]
  rw [hv]
  have hset : ∀ j, j ∈ s.2 → gt (s.1.set p (lfzF r.1 r.2)) j = gt s.1 j := fun j hj => by
    rw [gt_set _ _ _ _ (by omega), if_neg]
    intro e; subst e; exact hnew hj
  have hself : gt (s.1.set p (lfzF r.1 r.2)) p = lfzF r.1 r.2 := by rw [gt_set _ _ _ _ (by omega), if_pos rfl]
  refine ⟨by simp [h.len], fun g hg => ?_, fun g hg k hk hne => ?_⟩
  · rcases List.mem_append.1 hg with hg | hg
    · exact h.mem g hg
    · obtain rfl : g = p := by simpa using hg
      exact hp
  · dsimp only at hg hk ⊢
    rcases List.mem_append.1 hg with hg1 | hg1
    · rcases List.mem_append.1 hk with hk1 | hk1
      · rw [hset g hg1, hset k hk1]; exact h.keep g hg1 k hk1 hne
      · obtain rfl : k = p := by simpa using hk1
        rw [hset g hg1, hself]
        obtain ⟨e1, e2⟩ := hi.all g (gt s.1 g + gt (distF cs N g) k) hg1 (by rw [hiV, adF_at hok (h.mem g hg1) (by omega), if_neg hne])
        have := z2 e1
        omega
    · obtain rfl : g = p := by simpa using hg1
      rcases List.mem_append.1 hk with hk1 | hk1
      · rw [hset k hk1, hself]
        have := h.mem k hk1
        obtain ⟨e1, e2⟩ := lo.all k (gt s.1 k - gt (distF cs N g) k) hk1 (by rw [loV, adF_at hok hp (by omega), if_neg hne])
        have := z1 e1
        omega
      · obtain rfl : k = g := by simpa using hk1
        rw [dp.self hN (by omega)]
        omega

theorem valK_ok {cs : List Bd} {N : Nat} (hok : Ok N cs) (hN : NoNeg cs) (l : List Nat) (s : List Int × List Nat) (h : VOk cs N s) (hl : ∀ p ∈ l, p < N ∧ p ∉ s.2) (hn : l.Nodup) :
    VOk cs N (valK (adF cs N) s l) ∧ (∀ g, g ∈ (valK (adF cs N) s l).2 ↔ g ∈ s.2 ∨ g ∈ l) ∧ ∀ g ∈ s.2, gt (valK (adF cs N) s l).1 g = gt s.1 g := by
  induction l generalizing s with
  | nil => exact ⟨h, fun g => by simp [valK], fun g _ => rfl⟩
  | cons p l ih =>
    obtain ⟨hp, hnew⟩ := hl p (by simp)
    obtain ⟨hnp, hnl⟩ := List.nodup_cons.1 hn
    have hmem : (valS (adF cs N) s p).2 = s.2 ++ [p] := rfl
    obtain ⟨a, b, c⟩ := ih (valS (adF cs N) s p) (valS_ok hok hN h hp hnew) (fun q hq => ⟨(hl q (by simp [hq])).1, by
      rw [hmem]
      intro hq2
      rcases List.mem_append.1 hq2 with h1 | h1
      · exact (hl q (by simp [hq])).2 h1
      · obtain rfl : q = p := by simpa using h1
        exact hnp hq⟩) hnl
    refine ⟨a, fun g => ?_, fun g hg => ?_⟩
    · show g ∈ (valK (adF cs N) (valS (adF cs N) s p) l).2 ↔ _
      rw [b, hmem]
      simp [or_assoc]
    · show gt (valK (adF cs N) (valS (adF cs N) s p) l).1 g = _
      rw [c g (by rw [hmem]; simp [hg])]
      show gt (s.1.set p _) g = _
      rw [gt_set _ _ _ _ (by have := h.len; omega), if_neg]
      intro e; subst e; exact hnew hg

theorem nodup_range (k : Nat) : (List.range k).Nodup := List.nodup_range
theorem y1_at {row : List Int} {k p : Nat} (hp : p < k) : gt (y1 row k) p = if gt row p = NONE then 0 else gt row p := by
  unfold y1
  rw [gt_eq (by simpa using hp)]
  simp

/-- The values keep all bounds; that of the point 0 is 0. -/
theorem valF_ok {cs : List Bd} {N : Nat} (hok : Ok N cs) (hN : NoNeg cs) : Pot cs (gt (valF cs N)) ∧ gt (valF cs N) 0 = 0 := by
  have ht := hok.top
  have hp := hok.pos
  have d0 := dist_ok hok hN (a := 0) (by omega)
  have mg : ∀ g, g ∈ gvl (distF cs N 0) N ↔ g < N ∧ gt (distF cs N 0) g ≠ NONE := fun g => by simp [gvl]
  have mo : ∀ g, g ∈ opn (distF cs N 0) N ↔ g < N ∧ gt (distF cs N 0) g = NONE := fun g => by simp [opn]
  have h0 : VOk cs N (y1 (distF cs N 0) N, gvl (distF cs N 0) N) := by
    refine ⟨y1_length _ _, fun g hg => ((mg g).1 hg).1, fun g hg k hk hne => ?_⟩
    obtain ⟨g1, g2⟩ := (mg g).1 hg
    obtain ⟨k1, k2⟩ := (mg k).1 hk
    dsimp only
    rw [y1_at k1, y1_at g1, if_neg k2, if_neg g2]
    exact (d0.tri (dist_ok hok hN g1) (by omega) (by omega) g2 hne).2
  obtain ⟨a, b, c⟩ := valK_ok hok hN (opn (distF cs N 0) N) _ h0 (fun p hp => ⟨((mo p).1 hp).1, fun hq => ((mg p).1 hq).2 ((mo p).1 hp).2⟩) ((nodup_range N).filter _)
  have all : ∀ g, g < N → g ∈ (valK (adF cs N) (y1 (distF cs N 0) N, gvl (distF cs N 0) N) (opn (distF cs N 0) N)).2 := fun g hg => by
    rw [b]
    by_cases e : gt (distF cs N 0) g = NONE
    · exact .inr ((mo g).2 ⟨hg, e⟩)
    · exact .inl ((mg g).2 ⟨hg, e⟩)
  have z0 := d0.self hN (by omega)
  refine ⟨fun i hi => ?_, ?_⟩
  · have hpt := hok.pts hi
    obtain ⟨e1, e2⟩ := (dist_ok hok hN hpt.1).le _ _ _ (Pth.one hi)
    have := a.keep _ (all _ hpt.1) _ (all _ hpt.2.1) e1
    unfold valF
    omega
  · have hm : 0 ∈ gvl (distF cs N 0) N := (mg 0).2 ⟨by omega, by rw [z0]; decide⟩
    unfold valF
    rw [c 0 hm, y1_at (by omega), z0]
    simp [NONE]

/-- How great a distance can be: a path need not have more bounds than there are other points. -/
theorem dist_small {cs : List Bd} {N : Nat} (hok : Ok N cs) (hN : NoNeg cs) {a : Nat} (ha : a < N) : Tm (1000000 * ((N : Int) - 1)) (distF cs N a) := fun v => by
  have hp := hok.pos
  by_cases hv : v < 128
  · by_cases e : gt (distF cs N a) v = NONE
    · exact .inl e
    · right
      have d := dist_ok hok hN ha
      obtain ⟨l, hl⟩ := d.some v hv e
      obtain ⟨l', s', h1, h2, h3, _⟩ := short hok hN hl ha
      have h4 := (d.le _ _ _ h1).2
      have h5 := h1.sum_le hok
      omega
  · exact .inr (by rw [gt_far (by rw [(distF_small hok a).1]; omega)]; omega)
theorem adF_small {cs : List Bd} {N : Nat} (hok : Ok N cs) (hN : NoNeg cs) : Tm (1000000 * ((N : Int) - 1)) (adF cs N) := fun k => by
  have hp := hok.pos
  by_cases h : k < N * 128
  · have := dist_small hok hN (a := k / 128) (by omega) (k % 128)
    rw [← adF_at hok (a := k / 128) (p := k % 128) (by omega) (by omega), show k / 128 * 128 + k % 128 = k by omega] at this
    exact this
  · exact .inr (by rw [gt_far (by rw [adF_length hok]; omega)]; omega)
theorem valF_small {cs : List Bd} {N : Nat} (hok : Ok N cs) (hN : NoNeg cs) (h14 : N ≤ 14) (k : Nat) : -195000000 ≤ gt (valF cs N) k ∧ gt (valF cs N) k ≤ 195000000 := by
  have hp := hok.pos
  have h1 := y1_cl (dist_small hok hN (a := 0) (by omega)) (by omega) N
  have h2 := valK_cl (D := adF cs N) (s := (y1 (distF cs N 0) N, gvl (distF cs N 0) N)) h1 (adF_small hok hN) (by omega) (by omega) (opn (distF cs N 0) N)
  have h3 := h2 k
  have h4 := opn_length (distF cs N 0) N
  have h5 : 1000000 * ((N : Int) - 1) * ((opn (distF cs N 0) N).length : Int) ≤ 13000000 * 14 := Int.mul_le_mul (by omega) (by omega) (by omega) (by omega)
  unfold valF
  omega

/-- Kept accepts what keeps all bounds. -/
theorem keptF_of {N : Int} {bs : List Bd} (hc : check N bs = 0) (hl : ∀ b ∈ bs, b.gone = false) {y : List Int} (h1 : (y.length : Int) = N) (h2 : gt y 0 = 0) (h3 : ∀ k, -400000000 ≤ gt y k ∧ gt y k ≤ 400000000) (h4 : Pot bs (gt y)) : keptF N bs y = (0, true, 0) := by
  obtain ⟨l1, l2, l3⟩ := check_len hc
  have ha : areV N y = true := by
    simp only [areV, Bool.and_eq_true, decide_eq_true_eq, List.all_eq_true]
    refine ⟨⟨h1, by omega, h2⟩, fun v hv => ?_⟩
    obtain ⟨k, hk, rfl⟩ := List.getElem_of_mem hv
    have := h3 k
    rw [gt_eq hk] at this
    simpa [within] using this
  have hb : brk bs y = none := brk_none fun j hj => by
    have := h4 j ⟨hj, hl _ (bd_mem hj)⟩
    simp [brkP]
    omega
  rw [keptF, if_pos hc, if_pos ha, hb]
theorem keptF_inv {N : Int} {bs : List Bd} {y : List Int} (h : (keptF N bs y).2.1 = true) : check N bs = 0 ∧ (y.length : Int) = N ∧ gt y 0 = 0 ∧ (∀ k, k < y.length → -400000000 ≤ gt y k ∧ gt y k ≤ 400000000) ∧ Pot bs (gt y) ∧ keptF N bs y = (0, true, 0) := by
  unfold keptF at h ⊢
  split at h
  · rename_i hc
    split at h
    · rename_i ha
      rcases hb : brk bs y with _ | i
      · rw [if_pos ha]
        obtain ⟨a1, a2⟩ := areV_spec ha
        refine ⟨hc, a1, ?_, a2, fun i hi => ?_, by rw [if_pos hc]⟩
        · simp only [areV, Bool.and_eq_true, decide_eq_true_eq] at ha
          exact ha.1.2.2
        · rw [brk, List.find?_range_eq_none] at hb
          have := hb i hi.1
          simp [brkP] at this
          omega
      · rw [hb] at h; cases h
    · cases h
  · cases h

end Go.Proofs.Yteiaofgkmgllcaa.Ln

namespace Go.Proofs.Yteiaofgkmgllcaa.Ln

theorem sound_zero {N : Int} {bs : List Bd} {ps : List Int} (hs : soundF N bs ps = 0) : cpF N bs ps = 0 ∧ consF bs N.toNat = true ∧ check N bs = 0 := by
  have hcp : cpF N bs ps = 0 := by
    unfold soundF at hs
    split at hs
    · assumption
    · exact hs
  refine ⟨hcp, ?_, cpF_zero hcp⟩
  rcases h : consF bs N.toNat with _ | _
  · rw [soundF, if_pos hcp, if_neg (by rw [h]; simp)] at hs
    cases hs
  · rfl

theorem tie_pot {p v : Int} {y : Nat → Int} : Pot (tieL p v) y ↔ y p.toNat ≤ y 0 + v ∧ y 0 ≤ y p.toNat - v := by
  rw [show tieL p v = [⟨0, p, v, 0, false⟩] ++ [⟨p, 0, -v, 0, false⟩] from rfl, pot_app, pot_one rfl, pot_one rfl]
  dsimp only
  rw [show (0 : Int).toNat = 0 from rfl]
  constructor <;> rintro ⟨a, b⟩ <;> exact ⟨by omega, by omega⟩

def inB (N : Int) (bs : List Bd) (p v : Int) : Bool :=
  (!(lowF 0 (dF N bs p 0)).2 || decide ((lowF 0 (dF N bs p 0)).1 ≤ v)) && (!(highF 0 (dF N bs 0 p)).2 || decide (v ≤ (highF 0 (dF N bs 0 p)).1))
theorem inB_iff {N : Int} {bs : List Bd} {p v : Int} : inB N bs p v = true ↔ (dF N bs p 0 = NONE ∨ -(dF N bs p 0) ≤ v) ∧ (dF N bs 0 p = NONE ∨ v ≤ dF N bs 0 p) := by
  unfold inB lowF highF
  by_cases h1 : dF N bs p 0 = NONE <;> by_cases h2 : dF N bs 0 p = NONE <;> simp [h1, h2]

theorem attained {N : Int} {bs : List Bd} (hl : ∀ b ∈ bs, b.gone = false) {p v : Int} (hN14 : N ≤ 14) (hv0 : -1000000 ≤ v) (hv1 : v ≤ 1000000) (hs : soundF N bs [0, p] = 0) :
    (thF N bs p v).2.2 = 0 ∧ (thF N bs p v).2.1 = inB N bs p v ∧ ((thF N bs p v).2.1 = false → (thF N bs p v).1 = []) ∧
      ((thF N bs p v).2.1 = true → keptF N bs (thF N bs p v).1 = (0, true, 0) ∧ ((thF N bs p v).1.length : Int) = N ∧ gt (thF N bs p v).1 p.toNat = v) := by
  obtain ⟨hcp, hco, hc⟩ := sound_zero hs
  have h0 := pts_of hcp (p := 0) (by simp)
  have hp := pts_of hcp (p := p) (by simp)
  have hcp1 : cpF N bs [p] = 0 := by
    rw [cpF, if_pos hc, if_pos]
    simp [isPoint, hp.1, hp.2]
  have hw : within v 1000000 = true := by simp [within, hv0, hv1]
  obtain ⟨hok, hNt⟩ := ok_of_check hc
  have hNN := (cons_iff hok).1 hco
  have hok2 := tie_ok hcp1 hw
  have d0 := dist_ok hok hNN (a := 0) (by omega)
  have dp := dist_ok hok hNN (a := p.toNat) (by omega)
  have ht := hok.top
  have e1 : dF N bs p 0 = gt (distF bs N.toNat p.toNat) 0 := rfl
  have e2 : dF N bs 0 p = gt (distF bs N.toNat 0) p.toNat := rfl
  have hcons : consF (bs ++ tieL p v) N.toNat = inB N bs p v := by
    rcases hb : inB N bs p v with _ | _
    · rcases h : consF (bs ++ tieL p v) N.toNat with _ | _
      · rfl
      · obtain ⟨y, hy⟩ := (cons_pot hok2).1 h
        obtain ⟨y1, y2⟩ := pot_app.1 hy
        obtain ⟨y3, y4⟩ := tie_pot.1 y2
        have : inB N bs p v = true := inB_iff.2 ⟨by
          by_cases e : dF N bs p 0 = NONE
          · exact .inl e
          · right
            have := dp.pot (v := 0) (by omega) (by rw [← e1]; exact e) y1
            omega, by
          by_cases e : dF N bs 0 p = NONE
          · exact .inl e
          · right
            have := d0.pot (v := p.toNat) (by omega) (by rw [← e2]; exact e) y1
            omega⟩
        rw [hb] at this; cases this
    · obtain ⟨h1, h2⟩ := inB_iff.1 hb
      obtain ⟨y, hy, he⟩ := pot_between hok hNN (a := 0) (b := p.toNat) (by omega) (by omega) (d := v) (by rw [← e2]; exact h2) (by
        rw [← e1]
        rcases h1 with h1 | h1
        · exact .inl h1
        · exact .inr (by omega))
      exact (cons_pot hok2).2 ⟨y, pot_app.2 ⟨hy, tie_pot.2 ⟨by omega, by omega⟩⟩⟩
  have hth : thF N bs p v = if inB N bs p v = true then (valF (bs ++ tieL p v) N.toNat, true, 0) else ([], false, 0) := by
    rw [thF, if_pos hcp1, if_pos hw, hcons]
  rw [hth]
  rcases hb : inB N bs p v with _ | _
  · simp
  · rw [if_pos rfl]
    refine ⟨rfl, rfl, fun e => (by cases e), fun _ => ?_⟩
    have hN2 := (cons_iff hok2).1 (hcons.trans hb)
    obtain ⟨q1, q2⟩ := valF_ok hok2 hN2
    obtain ⟨q3, q4⟩ := pot_app.1 q1
    obtain ⟨q5, q6⟩ := tie_pot.1 q4
    have hlen := valF_length (bs ++ tieL p v) N.toNat
    refine ⟨keptF_of hc hl (by dsimp only; omega) q2 (fun k => ?_) q3, by dsimp only; omega, by dsimp only; omega⟩
    have := valF_small hok2 hN2 (by omega) k
    dsimp only
    omega

theorem attained_not {N : Int} {bs : List Bd} {p v : Int} (hv0 : -1000000 ≤ v) (hv1 : v ≤ 1000000) (hs : soundF N bs [0, p] ≠ 0) : (thF N bs p v).2.1 = false ∧ (thF N bs p v).1 = [] := by
  unfold thF
  split
  · rename_i hcp1
    split
    · rename_i hw
      split
      · rename_i hco
        exfalso
        have hc := cpF_zero hcp1
        obtain ⟨hok, hNt⟩ := ok_of_check hc
        have hok2 := tie_ok hcp1 hw
        have hco1 : consF bs N.toNat = true := cons_more hok hok2 hco
        have hp := pts_of hcp1 (p := p) (by simp)
        apply hs
        rw [soundF, if_pos, if_pos hco1]
        rw [cpF, if_pos hc, if_pos]
        simp [isPoint, hp.1, hp.2]
        omega
      · exact ⟨rfl, rfl⟩
    · exact ⟨rfl, rfl⟩
  · exact ⟨rfl, rfl⟩

/-! ### More bounds -/
theorem joinF_zero {N M : Int} {bs cs : List Bd} (h : (joinF N bs M cs).2 = 0) : check N bs = 0 ∧ check M cs = 0 ∧ N = M ∧ bs.length + cs.length ≤ 2000 ∧ joinF N bs M cs = ((N, bs ++ cs), 0) := by
  unfold joinF at h ⊢
  split at h
  · rename_i h1
    split at h
    · rename_i h2
      split at h
      · rename_i h3
        split at h
        · rename_i h4
          exact ⟨h1, h2, h3, h4, by rw [if_pos h1, if_pos h2, if_pos h3, if_pos h4]⟩
        · cases h
      · cases h
    · rename_i h2; exact absurd h h2
  · rename_i h1; exact absurd h h1
theorem joinF_mk {N M : Int} {bs cs : List Bd} (h1 : check N bs = 0) (h2 : check M cs = 0) (h3 : N = M) (h4 : bs.length + cs.length ≤ 2000) : joinF N bs M cs = ((N, bs ++ cs), 0) := by
  rw [joinF, if_pos h1, if_pos h2, if_pos h3, if_pos h4]
theorem joinF_both {N M : Int} {bs cs : List Bd} : (joinF N bs M cs).2 = 0 ↔ (joinF M cs N bs).2 = 0 := by
  constructor
  · intro h
    obtain ⟨h1, h2, h3, h4, _⟩ := joinF_zero h
    rw [joinF_mk h2 h1 h3.symm (by omega)]
  · intro h
    obtain ⟨h1, h2, h3, h4, _⟩ := joinF_zero h
    rw [joinF_mk h2 h1 h3.symm (by omega)]

theorem ok_app {N : Int} {bs cs : List Bd} (h1 : check N bs = 0) (h2 : check N cs = 0) (h4 : bs.length + cs.length ≤ 2000) : check N (bs ++ cs) = 0 := by
  obtain ⟨a, b, c⟩ := check_len h1
  refine check_mk (by simp; omega) b c (fun x hx => ?_)
  rcases List.mem_append.1 hx with hx | hx
  · exact check_valid h1 x hx
  · exact check_valid h2 x hx

/-- How the ranges of more bounds lie in those of fewer. -/
structure MoreOk (N : Int) (bs cs : List Bd) (a b : Int) : Prop where
  cj : check N (bs ++ cs) = 0
  ck : check N (cs ++ bs) = 0
  both : consF (bs ++ cs) N.toNat = consF (cs ++ bs) N.toNat
  one : consF (bs ++ cs) N.toNat = true → consF bs N.toNat = true
  same : btF N (bs ++ cs) a b = btF N (cs ++ bs) a b
  first : (btF N (bs ++ cs) a b).2.2 = 0 → (btF N bs a b).2.2 = 0
  high : (btF N (bs ++ cs) a b).2.2 = 0 → (btF N bs a b).2.1.2 = true → (btF N (bs ++ cs) a b).2.1.2 = true ∧ (btF N (bs ++ cs) a b).2.1.1 ≤ (btF N bs a b).2.1.1
  low : (btF N (bs ++ cs) a b).2.2 = 0 → (btF N bs a b).1.2 = true → (btF N (bs ++ cs) a b).1.2 = true ∧ (btF N bs a b).1.1 ≤ (btF N (bs ++ cs) a b).1.1

theorem cp_eq {N : Int} {bs cs : List Bd} (h1 : check N bs = 0) (h2 : check N cs = 0) (ps : List Int) : cpF N bs ps = cpF N cs ps := by rw [cpF, if_pos h1, cpF, if_pos h2]

theorem btF_zero {N : Int} {bs : List Bd} {a b : Int} (h : soundF N bs [a, b] = 0) : btF N bs a b = (lowF 0 (dF N bs b a), highF 0 (dF N bs a b), 0) := by rw [btF, if_pos h]
theorem more_ok {N : Int} {bs cs : List Bd} (h1 : check N bs = 0) (h2 : check N cs = 0) (h4 : bs.length + cs.length ≤ 2000) (a b : Int) : MoreOk N bs cs a b := by
  have hj := ok_app h1 h2 h4
  have hk := ok_app h2 h1 (by omega)
  obtain ⟨ob, hNt⟩ := ok_of_check h1
  obtain ⟨oj, _⟩ := ok_of_check hj
  obtain ⟨ok, _⟩ := ok_of_check hk
  have hsw : ∀ y, Pot (cs ++ bs) y ↔ Pot (bs ++ cs) y := fun y => by rw [pot_app, pot_app]; exact And.comm
  have hboth := cons_eq oj ok hsw
  have hone := cons_more (bs := bs) (cs := cs) ob oj
  have hsnd : soundF N (bs ++ cs) [a, b] = soundF N (cs ++ bs) [a, b] := by rw [soundF, soundF, cp_eq hj hk, hboth]
  have hsnd1 : soundF N (bs ++ cs) [a, b] = 0 → soundF N bs [a, b] = 0 := fun h => by
    obtain ⟨e1, e2, _⟩ := sound_zero h
    rw [soundF, cp_eq h1 hj, if_pos e1, if_pos (hone e2)]
  have zero_of : ∀ {ds : List Bd}, (btF N ds a b).2.2 = 0 → soundF N ds [a, b] = 0 := fun {ds} h => by
    unfold btF at h
    split at h
    · assumption
    · exact h
  have facts : soundF N (bs ++ cs) [a, b] = 0 → (0 ≤ a ∧ a < N) ∧ (0 ≤ b ∧ b < N) ∧ NoNeg bs ∧ NoNeg (bs ++ cs) ∧ NoNeg (cs ++ bs) := fun h => by
    obtain ⟨e1, e2, _⟩ := sound_zero h
    exact ⟨pts_of e1 (by simp), pts_of e1 (by simp), (cons_iff ob).1 (hone e2), (cons_iff oj).1 e2, (cons_iff ok).1 (hboth ▸ e2)⟩
  refine ⟨hj, hk, hboth, hone, ?_, fun h => ?_, fun h hi => ?_, fun h lo => ?_⟩
  · unfold btF
    rw [← hsnd]
    split
    · rename_i h
      obtain ⟨pa, pb, n1, n2, n3⟩ := facts h
      have q1 : dF N (bs ++ cs) b a = dF N (cs ++ bs) b a := dist_eq oj ok n2 n3 hsw (by omega) (by omega)
      have q2 : dF N (bs ++ cs) a b = dF N (cs ++ bs) a b := dist_eq oj ok n2 n3 hsw (by omega) (by omega)
      rw [q1, q2]
    · rfl
  · rw [btF, if_pos (hsnd1 (zero_of h))]
  · have h0 := zero_of h
    obtain ⟨pa, pb, n1, n2, n3⟩ := facts h0
    rw [btF_zero (hsnd1 h0)] at hi ⊢
    rw [btF_zero h0]
    dsimp only at hi ⊢
    have hne : dF N bs a b ≠ NONE := fun e => by rw [highF, if_pos e] at hi; cases hi
    have hd : dF N (bs ++ cs) a b ≠ NONE ∧ dF N (bs ++ cs) a b ≤ dF N bs a b := dist_le ob oj n1 n2 (fun y hy => (pot_app.1 hy).1) (a := a.toNat) (v := b.toNat) (by omega) (by omega) hne
    simp only [highF, if_neg hd.1, if_neg hne]
    exact ⟨trivial, by have := hd.2; omega⟩
  · have h0 := zero_of h
    obtain ⟨pa, pb, n1, n2, n3⟩ := facts h0
    rw [btF_zero (hsnd1 h0)] at lo ⊢
    rw [btF_zero h0]
    dsimp only at lo ⊢
    have hne : dF N bs b a ≠ NONE := fun e => by rw [lowF, if_pos e] at lo; cases lo
    have hd : dF N (bs ++ cs) b a ≠ NONE ∧ dF N (bs ++ cs) b a ≤ dF N bs b a := dist_le ob oj n1 n2 (fun y hy => (pot_app.1 hy).1) (a := b.toNat) (v := a.toNat) (by omega) (by omega) hne
    simp only [lowF, if_neg hd.1, if_neg hne]
    exact ⟨trivial, by have := hd.2; omega⟩

end Go.Proofs.Yteiaofgkmgllcaa.Ln

namespace Go.Proofs.Yteiaofgkmgllcaa.Ln

/-! ### Paths with just k bounds -/
theorem lgS_spec {d o : List Int} {p : Nat} (b : Bd) (hp : p < o.length) :
    (lgS d p o b).length = o.length ∧ (∀ q, q ≠ p → gt (lgS d p o b) q = gt o q) ∧ gt (lgS d p o b) p ≤ gt o p ∧ (gt d b.t.toNat ≠ NONE → gt (lgS d p o b) p ≤ b.m + gt d b.t.toNat) ∧
      (gt (lgS d p o b) p = gt o p ∨ (gt d b.t.toNat ≠ NONE ∧ gt (lgS d p o b) p = b.m + gt d b.t.toNat)) := by
  unfold lgS
  split
  · rename_i h
    exact ⟨rfl, fun _ _ => rfl, Int.le_refl _, fun e => absurd h e, .inl rfl⟩
  · rename_i h
    refine ⟨by simp, fun q hq => by rw [gt_set _ _ _ _ hp, if_neg hq], ?_, fun _ => ?_, ?_⟩
    · rw [gt_set _ _ _ _ hp, if_pos rfl]; omega
    · rw [gt_set _ _ _ _ hp, if_pos rfl]; omega
    · rw [gt_set _ _ _ _ hp, if_pos rfl]
      rcases Int.le_total (gt o p) (b.m + gt d b.t.toNat) with e | e
      · exact .inl (by omega)
      · exact .inr ⟨h, by omega⟩

theorem lgL_spec {bs : List Bd} {d : List Int} {p : Nat} (l : List Nat) (o : List Int) (hp : p < o.length) :
    (lgL bs d p l o).length = o.length ∧ (∀ q, q ≠ p → gt (lgL bs d p l o) q = gt o q) ∧ gt (lgL bs d p l o) p ≤ gt o p ∧ (∀ i ∈ l, gt d (bd bs i).t.toNat ≠ NONE → gt (lgL bs d p l o) p ≤ (bd bs i).m + gt d (bd bs i).t.toNat) ∧
      (gt (lgL bs d p l o) p = gt o p ∨ ∃ i ∈ l, gt d (bd bs i).t.toNat ≠ NONE ∧ gt (lgL bs d p l o) p = (bd bs i).m + gt d (bd bs i).t.toNat) := by
  induction l generalizing o with
  | nil => exact ⟨rfl, fun _ _ => rfl, Int.le_refl _, fun i hi => (by cases hi), .inl rfl⟩
  | cons i l ih =>
    obtain ⟨a1, a2, a3, a4, a5⟩ := lgS_spec (d := d) (bd bs i) hp
    obtain ⟨b1, b2, b3, b4, b5⟩ := ih (lgS d p o (bd bs i)) (by omega)
    refine ⟨b1.trans a1, fun q hq => (b2 q hq).trans (a2 q hq), Int.le_trans b3 a3, fun j hj hne => ?_, ?_⟩
    · rcases List.mem_cons.1 hj with rfl | hj
      · exact Int.le_trans b3 (a4 hne)
      · exact b4 j hj hne
    · rcases b5 with e | ⟨j, hj, h1, h2⟩
      · rcases a5 with e2 | ⟨h1, h2⟩
        · exact .inl (e.trans e2)
        · exact .inr ⟨i, by simp, h1, e.trans h2⟩
      · exact .inr ⟨j, by simp [hj], h1, h2⟩

theorem lgF_spec {bs : List Bd} {N : Nat} (ht : N ≤ 128) (d : List Int) (k : Nat) (hk : k ≤ N) :
    (lgF bs d k).length = 128 ∧ (∀ q, k ≤ q → q < 128 → gt (lgF bs d k) q = NONE) ∧
      ∀ p, p < k → (∀ i ∈ idx bs p, gt d (bd bs i).t.toNat ≠ NONE → gt (lgF bs d k) p ≤ (bd bs i).m + gt d (bd bs i).t.toNat) ∧
        (gt (lgF bs d k) p = NONE ∨ ∃ i ∈ idx bs p, gt d (bd bs i).t.toNat ≠ NONE ∧ gt (lgF bs d k) p = (bd bs i).m + gt d (bd bs i).t.toNat) := by
  induction k with
  | zero => exact ⟨nones_length, fun q _ hq => gt_rep hq NONE, fun p hp => by omega⟩
  | succ k ih =>
    obtain ⟨h1, h2, h3⟩ := ih (by omega)
    rw [lgF_succ]
    obtain ⟨b1, b2, b3, b4, b5⟩ := lgL_spec (bs := bs) (d := d) (p := k) (idx bs k) (lgF bs d k) (by omega)
    refine ⟨b1.trans h1, fun q hq hq2 => (b2 q (by omega)).trans (h2 q (by omega) hq2), fun p hp => ?_⟩
    by_cases e : p = k
    · subst e
      exact ⟨b4, b5.imp (fun e => e.trans (h2 p (by omega) (by omega))) id⟩
    · rw [b2 p e]
      exact h3 p (by omega)

/-- What the row for k bounds says. -/
structure RowOk (bs : List Bd) (b k : Nat) (R : List Int) : Prop where
  le : ∀ v l s, Pth bs v l b s → l.length = k → gt R v ≠ NONE ∧ gt R v ≤ s
  some : ∀ v, v < 128 → gt R v ≠ NONE → ∃ l, Pth bs v l b (gt R v) ∧ l.length = k
theorem row_ok {bs : List Bd} {N : Nat} (hok : Ok N bs) {b : Nat} (hb : b < N) (k : Nat) (hk : k ≤ 1000) : RowOk bs b k (rowF bs N b k) := by
  have ht := hok.top
  have hNN : NONE = 9223372036854775807 := rfl
  induction k with
  | zero =>
    refine ⟨fun v l s hp hl => ?_, fun v hv hne => ?_⟩
    · cases hp with
      | nil =>
        show gt (nones.set b 0) b ≠ NONE ∧ gt (nones.set b 0) b ≤ 0
        rw [start_at (by omega) (by omega), if_pos rfl]
        exact ⟨by decide, Int.le_refl _⟩
      | cons => simp at hl
    · rw [show rowF bs N b 0 = nones.set b 0 from rfl, start_at (by omega) hv] at hne ⊢
      split at hne
      · rename_i e; subst e
        rw [if_pos rfl]
        exact ⟨[], .nil _, rfl⟩
      · exact absurd rfl hne
  | succ k ih =>
    have ih := ih (by omega)
    obtain ⟨h1, h2, h3⟩ := lgF_spec (bs := bs) ht (rowF bs N b k) N (Nat.le_refl _)
    have hs := (rowF_small hok b k).2.all (by omega)
    refine ⟨fun v l s hp hl => ?_, fun v hv hne => ?_⟩
    · cases hp with
      | nil => simp at hl
      | @cons i l q s hi hp =>
        have hpt := hok.pts hi
        simp only [List.length_cons] at hl
        obtain ⟨e1, e2⟩ := ih.le _ _ _ hp (by omega)
        have e3 := (h3 _ hpt.1).1 i (mem_idx.2 ⟨hi, by omega⟩) e1
        have e4 := (hs (bd bs i).t.toNat).resolve_left e1
        show gt (lgF bs (rowF bs N b k) N) _ ≠ NONE ∧ gt (lgF bs (rowF bs N b k) N) _ ≤ _
        omega
    · have hne' : gt (lgF bs (rowF bs N b k) N) v ≠ NONE := hne
      have hvN : v < N := by
        rcases Nat.lt_or_ge v N with h | h
        · exact h
        · exact absurd (h2 v h hv) hne'
      obtain ⟨i, hi, e1, e2⟩ := (h3 v hvN).2.resolve_left hne'
      obtain ⟨hi1, hi2⟩ := mem_idx.1 hi
      have hpt := hok.pts hi1
      obtain ⟨l, hl, hlen⟩ := ih.some _ (by omega) e1
      exact ⟨i :: l, Pth.cons' hi1 (by omega) hl e2, by simp [hlen]⟩

theorem wkF_ok {bs : List Bd} {N : Nat} (hok : Ok N bs) {b : Nat} (hb : b < N) (k : Nat) (hk : k ≤ 1000) (p : Nat) (hp : p < N) (most : Int) (hm : most + 1000000 * (k : Int) < NONE) (h : gt (rowF bs N b k) p ≤ most) :
    ∃ s, Pth bs p (wkF bs (rowF bs N b) k p most) b s ∧ s ≤ most ∧ (wkF bs (rowF bs N b) k p most).length = k := by
  have ht := hok.top
  induction k generalizing p most with
  | zero =>
    rw [show rowF bs N b 0 = nones.set b 0 from rfl, start_at (by omega) (by omega)] at h
    split at h
    · rename_i e; subst e
      exact ⟨0, .nil _, h, rfl⟩
    · omega
  | succ k ih =>
    have r1 := row_ok hok hb (k + 1) hk
    have r0 := row_ok hok hb k (by omega)
    obtain ⟨l, hl, hlen⟩ := r1.some p (by omega) (by omega)
    rcases hf : (idx bs p).find? (okP bs (rowF bs N b k) most) with _ | j
    · exfalso
      rw [List.find?_eq_none] at hf
      generalize gt (rowF bs N b (k + 1)) p = g at hl h
      cases hl with
      | nil => simp at hlen
      | @cons i l q s hi hp' =>
        have hpt := hok.pts hi
        simp only [List.length_cons] at hlen
        obtain ⟨e1, e2⟩ := r0.le _ _ _ hp' (by omega)
        apply hf i (mem_idx.2 ⟨hi, by omega⟩)
        simp [okP, e1]
        omega
    · rw [wkF_some hf]
      have hj := List.mem_of_find?_eq_some hf
      have hjp := List.find?_some hf
      obtain ⟨hj1, hj2⟩ := mem_idx.1 hj
      have hpt := hok.pts hj1
      simp only [okP, Bool.and_eq_true, Bool.not_eq_true', decide_eq_false_iff_not, decide_eq_true_eq] at hjp
      obtain ⟨s, a, b', c⟩ := ih (by omega) (bd bs j).t.toNat hpt.2.1 (most - (bd bs j).m) (by omega) (by omega)
      exact ⟨_, Pth.cons' hj1 (by omega) a rfl, by omega, by simp [c]⟩

/-- The first path: it is one, and none with so small a sum has fewer bounds. -/
theorem fpF_ok {bs : List Bd} {N : Nat} (hok : Ok N bs) {a b : Nat} (ha : a < N) (hb : b < N) (most : Int) (hm : most < 1000000000000) (longest : Nat) (hl : longest ≤ 1000) :
    ((fpF bs N a b most longest).2 = true → ∃ s, Pth bs a (fpF bs N a b most longest).1 b s ∧ s ≤ most ∧ (fpF bs N a b most longest).1.length ≤ longest ∧ ∀ l u, Pth bs a l b u → u ≤ most → (fpF bs N a b most longest).1.length ≤ l.length) ∧
    ((fpF bs N a b most longest).2 = false → ∀ l u, Pth bs a l b u → u ≤ most → longest < l.length) := by
  have ht := hok.top
  have hNN : NONE = 9223372036854775807 := rfl
  unfold fpF
  rcases h : fpM bs N a b most longest with _ | k
  · refine ⟨fun e => (by cases e), fun _ l u hp hu => ?_⟩
    rw [fpM, List.find?_range_eq_none] at h
    rcases Nat.lt_or_ge longest l.length with hlt | hge
    · exact hlt
    · exfalso
      have := h l.length (by omega)
      have r := (row_ok hok hb l.length (by omega)).le _ _ _ hp rfl
      simp [fpP] at this
      omega
  · refine ⟨fun _ => ?_, fun e => (by cases e)⟩
    rw [fpM, List.find?_range_eq_some] at h
    obtain ⟨h1, h2, h3⟩ := h
    have hkl : k ≤ longest := by simpa [Nat.lt_succ_iff] using h2
    simp only [fpP, decide_eq_true_eq] at h1
    obtain ⟨s, e1, e2, e3⟩ := wkF_ok hok hb k (by omega) a ha most (by omega) h1
    refine ⟨s, e1, e2, by dsimp only; omega, fun l u hp hu => ?_⟩
    dsimp only
    rw [e3]
    rcases Nat.lt_or_ge l.length k with hlt | hge
    · exfalso
      have := h3 l.length hlt
      have r := (row_ok hok hb l.length (by omega)).le _ _ _ hp rfl
      simp [fpP] at this
      omega
    · exact hge

/-! ### Negative circles -/
def Neg (bs : List Bd) (p : Nat) (l : List Nat) (s : Int) : Prop := Pth bs p l p s ∧ s < 0
theorem not_noNeg {bs : List Bd} (h : ¬ NoNeg bs) : ∃ p l s, Neg bs p l s := by
  refine Classical.byContradiction fun hn => h fun p l s hp => ?_
  rcases Int.lt_or_le s 0 with e | e
  · exact absurd ⟨p, l, s, hp, e⟩ hn
  · exact e
/-- One of the shortest. -/
theorem shortest {bs : List Bd} (h : ¬ NoNeg bs) : ∃ p l s, Neg bs p l s ∧ ∀ q k u, Neg bs q k u → l.length ≤ k.length := by
  obtain ⟨p, l, s, hp⟩ := not_noNeg h
  have : ∀ n p l s, Neg bs p l s → l.length ≤ n → ∃ p l s, Neg bs p l s ∧ ∀ q k u, Neg bs q k u → l.length ≤ k.length := by
    intro n
    induction n with
    | zero =>
      intro p l s hp hl
      exact ⟨p, l, s, hp, fun q k u _ => by omega⟩
    | succ n ih =>
      intro p l s hp hl
      by_cases hm : ∀ q k u, Neg bs q k u → l.length ≤ k.length
      · exact ⟨p, l, s, hp, hm⟩
      · simp only [Classical.not_forall] at hm
        obtain ⟨q, k, u, hq, hk⟩ := hm
        exact ih q k u hq (by omega)
  exact this _ p l s hp (Nat.le_refl _)

theorem cut_at {bs : List Bd} {p q : Nat} {l : List Nat} {s : Int} (h : Pth bs p l q s) {x : Nat} (hx : x ∈ l.map (fun i => (bd bs i).f.toNat)) :
    ∃ l1 l2 s1 s2, Pth bs p l1 x s1 ∧ Pth bs x l2 q s2 ∧ l = l1 ++ l2 ∧ l2 ≠ [] ∧ s = s1 + s2 := by
  induction h with
  | nil => cases hx
  | @cons i l q s hi h ih =>
    by_cases e : x = (bd bs i).f.toNat
    · subst e
      exact ⟨[], i :: l, 0, _, .nil _, .cons hi h, rfl, by simp, by omega⟩
    · rw [List.map_cons] at hx
      rcases List.mem_cons.1 hx with hx | hx
      · exact absurd hx e
      · obtain ⟨l1, l2, s1, s2, a, b, c, d, f⟩ := ih hx
        exact ⟨i :: l1, l2, _, s2, .cons hi a, b, by rw [c]; rfl, d, by omega⟩
theorem once_or {bs : List Bd} {p q : Nat} {l : List Nat} {s : Int} (h : Pth bs p l q s) : (l.map (fun i => (bd bs i).f.toNat)).Nodup ∨
    ∃ l1 l2 l3 r s1 s2 s3, Pth bs p l1 r s1 ∧ Pth bs r l2 r s2 ∧ Pth bs r l3 q s3 ∧ l = l1 ++ (l2 ++ l3) ∧ l2 ≠ [] ∧ l3 ≠ [] ∧ s = s1 + s2 + s3 := by
  induction h with
  | nil => exact .inl (by simp)
  | @cons i l q s hi h ih =>
    rcases ih with ih | ⟨l1, l2, l3, r, s1, s2, s3, a, b, c, d, e, f, g⟩
    · by_cases hm : (bd bs i).f.toNat ∈ l.map (fun i => (bd bs i).f.toNat)
      · right
        obtain ⟨l1, l2, s1, s2, a, b, c, d, f⟩ := cut_at h hm
        exact ⟨[], i :: l1, l2, _, 0, _, s2, .nil _, .cons hi a, b, by rw [c]; rfl, by simp, d, by omega⟩
      · left
        rw [List.map_cons]
        exact List.nodup_cons.2 ⟨hm, ih⟩
    · right
      exact ⟨i :: l1, l2, l3, r, _, s2, s3, .cons hi a, b, c, by rw [d]; rfl, e, f, by omega⟩
/-- One of the shortest leaves each point once. -/
theorem shortest_once {bs : List Bd} {p : Nat} {l : List Nat} {s : Int} (hn : Neg bs p l s) (hm : ∀ q k u, Neg bs q k u → l.length ≤ k.length) : (l.map (fun i => (bd bs i).f.toNat)).Nodup := by
  rcases once_or hn.1 with h | ⟨l1, l2, l3, r, s1, s2, s3, a, b, c, d, e, f, g⟩
  · exact h
  · exfalso
    have hneg := hn.2
    have el2 : 0 < l2.length := List.length_pos_iff.2 e
    have el3 : 0 < l3.length := List.length_pos_iff.2 f
    have hlen : l.length = l1.length + (l2.length + l3.length) := by rw [d]; simp
    by_cases h2 : s2 < 0
    · have := hm r l2 s2 ⟨b, h2⟩
      omega
    · have := hm p (l1 ++ l3) (s1 + s3) ⟨a.append c, by omega⟩
      simp at this
      omega
theorem once_len {bs : List Bd} {N : Nat} (hok : Ok N bs) {p q : Nat} {l : List Nat} {s : Int} (h : Pth bs p l q s) (hn : (l.map (fun i => (bd bs i).f.toNat)).Nodup) : l.length ≤ N := by
  have := pigeon (N := N) hn (fun x hx => by
    obtain ⟨i, hi, rfl⟩ := List.mem_map.1 hx
    exact (hok.pts (h.live i hi)).1)
  simpa using this

theorem neg_start {bs : List Bd} {N : Nat} (hok : Ok N bs) {p : Nat} {l : List Nat} {s : Int} (h : Neg bs p l s) : p < N ∧ l ≠ [] := by
  obtain ⟨h1, h2⟩ := h
  cases h1 with
  | nil => omega
  | cons hi _ => exact ⟨(hok.pts hi).1, by simp⟩

theorem clF_ge {a b : List Int} (h : ¬ clF a b < 0) : b.length ≤ a.length := by
  unfold clF cmpI at h
  by_cases h1 : (a.length : Int) < b.length
  · rw [if_pos h1] at h
    simp at h
  · omega

/-- What the search over the points keeps. -/
structure CircInv (bs : List Bd) (N k : Nat) (s : List Nat × Nat) : Prop where
  nil : s.1 = [] → s.2 = N ∧ ∀ p l u, p < k → Neg bs p l u → N < l.length
  cons : s.1 ≠ [] → s.2 = s.1.length ∧ s.1.length ≤ N ∧ (∃ p u, Neg bs p s.1 u) ∧ ∀ p l u, p < k → Neg bs p l u → s.1.length ≤ l.length
theorem circK_ok {bs : List Bd} {N : Nat} (hok : Ok N bs) (k : Nat) (hk : k ≤ N) : CircInv bs N k (circK bs N k) := by
  have ht := hok.top
  induction k with
  | zero => exact ⟨fun _ => ⟨rfl, fun p l u h => by omega⟩, fun h => absurd rfl h⟩
  | succ k ih =>
    have ih := ih (by omega)
    rw [circK_succ]
    generalize circK bs N k = st at ih ⊢
    obtain ⟨first, longest⟩ := st
    have hlong : longest ≤ N := by
      by_cases e : first = []
      · have := (ih.nil e).1; dsimp only at this; omega
      · have := (ih.cons e).1; have := (ih.cons e).2.1; dsimp only at *; omega
    obtain ⟨f1, f2⟩ := fpF_ok hok (a := k) (b := k) (by omega) (by omega) (-1) (by decide) longest (by omega)
    have split : ∀ {P : Nat → List Nat → Int → Prop}, (∀ p l u, p < k → Neg bs p l u → P p l u) → (∀ l u, Neg bs k l u → P k l u) → ∀ p l u, p < k + 1 → Neg bs p l u → P p l u := fun h1 h2 p l u hp hn => by
      rcases Nat.lt_or_ge p k with h | h
      · exact h1 p l u h hn
      · obtain rfl : p = k := by omega
        exact h2 l u hn
    unfold circS
    dsimp only
    split
    · rename_i hc
      obtain ⟨s, e1, e2, e3, e4⟩ := f1 hc.1
      have hneg : Neg bs k (fpF bs N k k (-1) longest).1 s := ⟨e1, by omega⟩
      have hne := (neg_start hok hneg).2
      refine ⟨fun h => absurd h hne, fun _ => ⟨rfl, by dsimp only; omega, ⟨k, s, hneg⟩, ?_⟩⟩
      refine split (fun p l u hp hn => ?_) (fun l u hn => e4 l u hn.1 (by have := hn.2; omega))
      show (fpF bs N k k (-1) longest).1.length ≤ l.length
      by_cases e : first = []
      · have := (ih.nil e).2 p l u hp hn
        omega
      · have h1 := (ih.cons e).2.2.2 p l u hp hn
        have h2 := (ih.cons e).1
        dsimp only at h1 h2
        omega
    · rename_i hc
      refine ⟨fun h => ?_, fun h => ?_⟩
      · obtain ⟨a, b⟩ := ih.nil h
        refine ⟨a, split b (fun l u hn => ?_)⟩
        dsimp only at h a
        rcases hfb : (fpF bs N k k (-1) longest).2 with _ | _
        · have := f2 hfb l u hn.1 (by have := hn.2; omega)
          omega
        · exact absurd ⟨hfb, .inl h⟩ hc
      · obtain ⟨a, b, c, d⟩ := ih.cons h
        refine ⟨a, b, c, split d (fun l u hn => ?_)⟩
        dsimp only at a h ⊢
        rcases hfb : (fpF bs N k k (-1) longest).2 with _ | _
        · have := f2 hfb l u hn.1 (by have := hn.2; omega)
          omega
        · obtain ⟨s, e1, e2, e3, e4⟩ := f1 hfb
          have h5 := e4 l u hn.1 (by have := hn.2; omega)
          have h6 := clF_ge (a := zl (fpF bs N k k (-1) longest).1) (b := zl first) (fun hlt => hc ⟨hfb, .inr hlt⟩)
          rw [zl_length, zl_length] at h6
          omega

/-- The circle found: it is a negative one, none is shorter, and it leaves each point once. -/
theorem circF_ok {bs : List Bd} {N : Nat} (hok : Ok N bs) (h : ¬ NoNeg bs) : (∃ p s, p < N ∧ Neg bs p (circF bs N) s) ∧ (∀ q l u, Neg bs q l u → (circF bs N).length ≤ l.length) ∧ ((circF bs N).map (fun i => (bd bs i).f.toNat)).Nodup ∧ circF bs N ≠ [] := by
  have hi := circK_ok hok N (Nat.le_refl _)
  obtain ⟨p, l, s, hn, hm⟩ := shortest h
  have hl := once_len hok hn.1 (shortest_once hn hm)
  have hp := (neg_start hok hn).1
  have hne : (circK bs N N).1 ≠ [] := fun e => by have := (hi.nil e).2 p l s hp hn; omega
  obtain ⟨a, b, ⟨q, u, c⟩, d⟩ := hi.cons hne
  have hmin : ∀ q l u, Neg bs q l u → (circF bs N).length ≤ l.length := fun q l u hn => d q l u (neg_start hok hn).1 hn
  exact ⟨⟨q, u, (neg_start hok c).1, c⟩, hmin, shortest_once c hmin, hne⟩

end Go.Proofs.Yteiaofgkmgllcaa.Ln

namespace Go.Proofs.Yteiaofgkmgllcaa.Ln

theorem Pth.nil_inv {bs : List Bd} {p q : Nat} {s : Int} (h : Pth bs p [] q s) : p = q ∧ s = 0 := by
  cases h with
  | nil => exact ⟨rfl, rfl⟩

def flS (bs : List Bd) (st : Int × Int) (i : Int) : Option (Int × Int) :=
  if 0 ≤ i ∧ i < bs.length ∧ (bd bs i.toNat).f = st.1 then some ((bd bs i.toNat).t, st.2 + (bd bs i.toNat).m) else none
def flG (bs : List Bd) : List Int → Int × Int → Option (Int × Int)
  | [], st => some st
  | i :: l, st => match flS bs st i with
    | none => none
    | some s => flG bs l s
def outG : Option (Int × Int) → Int × Int × Bool
  | none => (0, 0, false)
  | some (t, s) => (t, s, true)
def flF (bs : List Bd) (l : List Int) (a : Int) : Int × Int × Bool := outG (flG bs l (a, 0))
theorem flG_no {bs : List Bd} {i : Int} {l : List Int} {st : Int × Int} (h : ¬ (0 ≤ i ∧ i < bs.length ∧ (bd bs i.toNat).f = st.1)) : flG bs (i :: l) st = none := by rw [flG, flS, if_neg h]
theorem flG_go {bs : List Bd} {i : Int} {l : List Int} {st : Int × Int} (h : 0 ≤ i ∧ i < bs.length ∧ (bd bs i.toNat).f = st.1) : flG bs (i :: l) st = flG bs l ((bd bs i.toNat).t, st.2 + (bd bs i.toNat).m) := by rw [flG, flS, if_pos h]
theorem drop_cons {α : Type} {l : List α} {k : Nat} (h : k < l.length) : l.drop k = l[k] :: l.drop (k + 1) := List.drop_eq_getElem_cons h

theorem flG_path {bs : List Bd} {N : Nat} (hok : Ok N bs) (hl : ∀ b ∈ bs, b.gone = false) {l : List Int} {a s0 t s : Int} (h : flG bs l (a, s0) = some (t, s)) :
    Pth bs a.toNat (l.map Int.toNat) t.toNat (s - s0) ∧ (0 ≤ a → 0 ≤ t) ∧ ∀ i ∈ l, 0 ≤ i ∧ i < bs.length := by
  induction l generalizing a s0 with
  | nil =>
    simp only [flG, Option.some.injEq, Prod.mk.injEq] at h
    obtain ⟨rfl, rfl⟩ := h
    exact ⟨(Pth.nil _).cast (by omega), id, fun i hi => by cases hi⟩
  | cons i l ih =>
    by_cases hc : 0 ≤ i ∧ i < bs.length ∧ (bd bs i.toNat).f = a
    · rw [flG_go hc] at h
      obtain ⟨h1, h2, h3⟩ := ih h
      have hi : Lv1 bs i.toNat := ⟨by omega, hl _ (bd_mem (by omega))⟩
      have hpt := hok.pts hi
      refine ⟨Pth.cons' hi (by rw [hc.2.2]) h1 (by omega), fun _ => h2 (by omega), fun j hj => ?_⟩
      rcases List.mem_cons.1 hj with rfl | hj
      · exact ⟨hc.1, hc.2.1⟩
      · exact h3 j hj
    · rw [flG_no hc] at h; cases h

theorem path_flG {bs : List Bd} {N : Nat} (hok : Ok N bs) {p q : Nat} {l : List Nat} {s : Int} (h : Pth bs p l q s) (s0 : Int) : flG bs (zl l) (p, s0) = some ((q : Int), s0 + s) := by
  induction h generalizing s0 with
  | nil p => simp [zl, flG]
  | @cons i l q s hi h ih =>
    have hpt := hok.pts hi
    have := hi.1
    rw [show zl (i :: l) = (i : Int) :: zl l from rfl, flG_go ⟨by omega, by omega, by rw [Int.toNat_natCast]; dsimp only; omega⟩, Int.toNat_natCast, ← hpt.2.2.2.1, ih]
    simp only [Option.some.injEq, Prod.mk.injEq, true_and]
    omega

theorem flG_bound {bs : List Bd} {N : Nat} (hok : Ok N bs) {i : Nat} (hi : i < bs.length) : 0 ≤ (bd bs i).f ∧ (bd bs i).f < N ∧ 0 ≤ (bd bs i).t ∧ (bd bs i).t < N ∧ -1000000 ≤ (bd bs i).m ∧ (bd bs i).m ≤ 1000000 := by
  have := hok.each _ (bd_mem hi)
  omega

/-- Consistent, errors and all. -/
def coF (N : Int) (bs : List Bd) : Bool × Int := if check N bs = 0 then (consF bs N.toNat, 0) else (false, check N bs)

/-- CheckPath, errors and all. -/
def isPath (o : Option (Int × Int)) (b most : Int) : Bool := match o with
  | none => false
  | some (t, s) => decide (t = b) && decide (s ≤ most)
def chF (N : Int) (bs : List Bd) (l : List Int) (a b most : Int) : Bool × Int :=
  if cpF N bs [a, b] = 0 then (if 2000 < l.length then (false, 0) else (isPath (flG bs l (a, 0)) b most, 0)) else (false, cpF N bs [a, b])

/-- CheckCircle, errors and all. -/
def onceB (bs : List Bd) (l : List Int) : Bool := decide ((l.map (fun i => (bd bs i.toNat).f.toNat)).Nodup)
def isCirc (bs : List Bd) (l : List Int) (from_ : Int) (o : Option (Int × Int)) : Bool := match o with
  | none => false
  | some (t, s) => decide (t = from_) && (decide (s < 0) && onceB bs l)
def l0 (l : List Int) : Int := gt l 0
def ccF (N : Int) (bs : List Bd) (l : List Int) : Bool × Int :=
  if check N bs = 0 then
    (if l.length < 2 ∨ l0 l < 0 ∨ bs.length ≤ l0 l then (false, 0) else (isCirc bs l (bd bs (l0 l).toNat).f (flG bs l ((bd bs (l0 l).toNat).f, 0)), 0))
  else (false, check N bs)

theorem zl_nat (l : List Nat) : (zl l).map Int.toNat = l := by
  induction l with
  | nil => rfl
  | cons x l ih => rw [show zl (x :: l) = (x : Int) :: zl l from rfl, List.map_cons, ih, Int.toNat_natCast]
theorem onceB_zl (bs : List Bd) (l : List Nat) : onceB bs (zl l) = decide ((l.map (fun i => (bd bs i).f.toNat)).Nodup) := by
  unfold onceB zl
  rw [List.map_map]
  rfl

/-- A circle that is accepted is a negative one. -/
theorem ccF_neg {N : Int} {bs : List Bd} {l : List Int} (hl : ∀ b ∈ bs, b.gone = false) (h : (ccF N bs l).1 = true) : check N bs = 0 ∧ ∃ p s, Neg bs p (l.map Int.toNat) s ∧ ∀ i ∈ l, 0 ≤ i ∧ i < bs.length := by
  unfold ccF at h
  split at h
  · rename_i hc
    split at h
    · cases h
    · obtain ⟨hok, _⟩ := ok_of_check hc
      refine ⟨hc, ?_⟩
      dsimp only at h
      generalize hf : (bd bs (l0 l).toNat).f = f at h
      rcases hg : flG bs l (f, 0) with _ | ⟨t, s⟩
      · rw [hg] at h; cases h
      · rw [hg] at h
        simp only [isCirc, Bool.and_eq_true, decide_eq_true_eq] at h
        obtain ⟨h1, h2, h3⟩ := h
        subst h1
        obtain ⟨a, b, c⟩ := flG_path hok hl hg
        exact ⟨t.toNat, s, ⟨a.cast (by omega), h2⟩, c⟩
  · cases h
/-- A negative circle that leaves each point once is accepted. -/
theorem ccF_mk {N : Int} {bs : List Bd} {l : List Nat} (hc : check N bs = 0) {p : Nat} {s : Int} (h : Neg bs p l s) (hn : (l.map (fun i => (bd bs i).f.toNat)).Nodup) : ccF N bs (zl l) = (true, 0) := by
  obtain ⟨hok, _⟩ := ok_of_check hc
  obtain ⟨h1, h2⟩ := h
  have hp := path_flG hok h1 0
  cases h1 with
  | nil => omega
  | @cons i l q s hi h =>
    have hpt := hok.pts hi
    have hil := hi.1
    have hlen : l ≠ [] := by
      intro e
      subst e
      have he := (h.nil_inv).1
      have := (valid_iff.1 (check_valid hc _ (bd_mem hi.1))).2.2.1
      omega
    have hl0 : l0 (zl (i :: l)) = i := by simp [l0, zl, gt]
    have hlen2 : 2 ≤ (zl (i :: l)).length := by
      rw [zl_length]
      have := List.length_pos_iff.2 hlen
      simp; omega
    rw [ccF, if_pos hc, hl0, if_neg (by omega), Int.toNat_natCast]
    rw [show (((bd bs i).f.toNat : Nat) : Int) = (bd bs i).f by omega] at hp
    rw [hp, isCirc, onceB_zl]
    rw [decide_eq_true (p := ((i :: l).map fun i => (bd bs i).f.toNat).Nodup) hn]
    simp
    omega
theorem ccF_err {N : Int} {bs : List Bd} {l : List Int} : (ccF N bs l).2 = check N bs := by
  unfold ccF
  split
  · rename_i h
    rw [h]
    split <;> rfl
  · rfl
theorem coF_err {N : Int} {bs : List Bd} : (coF N bs).2 = check N bs := by
  unfold coF
  split
  · rename_i h; rw [h]
  · rfl
theorem ciF_err {N : Int} {bs : List Bd} : (ciF N bs).2.2 = check N bs := by
  unfold ciF
  split
  · rename_i h
    rw [h]
    split <;> rfl
  · rfl
theorem someF_err {N : Int} {bs : List Bd} : (someF N bs).2 = soundF N bs [] := by
  unfold someF
  split
  · rename_i h; rw [h]
  · rfl
theorem sound_nil {N : Int} {bs : List Bd} : soundF N bs [] = if check N bs = 0 then (if consF bs N.toNat = true then 0 else 10) else check N bs := by
  unfold soundF cpF
  by_cases h : check N bs = 0
  · simp [h]
  · simp [h]

/-- A system that is right: values that keep it, or a negative circle, and not both. -/
structure EitherOk (N : Int) (bs : List Bd) (l : List Int) : Prop where
  yes : consF bs N.toNat = true → ciF N bs = ([], false, 0) ∧ someF N bs = (valF bs N.toNat, 0) ∧ keptF N bs (valF bs N.toNat) = (0, true, 0) ∧ (ccF N bs l).1 = false
  no : consF bs N.toNat = false → ciF N bs = (circF bs N.toNat, true, 0) ∧ someF N bs = ([], 10) ∧ ccF N bs (zl (circF bs N.toNat)) = (true, 0) ∧ ((ccF N bs l).1 = true → (circF bs N.toNat).length ≤ l.length)
theorem either_ok {N : Int} {bs : List Bd} (l : List Int) (hl : ∀ b ∈ bs, b.gone = false) (hc : check N bs = 0) (h14 : N ≤ 14) : EitherOk N bs l := by
  obtain ⟨hok, hNt⟩ := ok_of_check hc
  have hci := cons_iff hok
  refine ⟨fun h => ?_, fun h => ?_⟩
  · have hN := hci.1 h
    refine ⟨by rw [ciF, if_pos hc, if_pos h], by rw [someF, sound_nil, if_pos hc, if_pos h, if_pos rfl], ?_, ?_⟩
    · obtain ⟨q1, q2⟩ := valF_ok hok hN
      have hlen := valF_length bs N.toNat
      refine keptF_of hc hl (by omega) q2 (fun k => ?_) q1
      have := valF_small hok hN (by omega) k
      omega
    · rcases e : (ccF N bs l).1 with _ | _
      · rfl
      · obtain ⟨_, p, s, h1, _⟩ := ccF_neg hl e
        have := hN _ _ _ h1.1
        have := h1.2
        omega
  · have hN : ¬ NoNeg bs := fun e => by rw [hci.2 e] at h; cases h
    obtain ⟨⟨p, s, h1, h2⟩, h3, h4, h5⟩ := circF_ok hok hN
    refine ⟨by rw [ciF, if_pos hc, if_neg (by rw [h]; simp)], by simp [someF, sound_nil, hc, h], ccF_mk hc h2 h4, fun e => ?_⟩
    obtain ⟨_, q, u, g1, _⟩ := ccF_neg hl e
    have := h3 q _ u g1
    simpa using this

/-! ### Paths -/
theorem chF_path {N : Int} {bs : List Bd} {l : List Int} {a b most : Int} (hl : ∀ b ∈ bs, b.gone = false) (h : (chF N bs l a b most).1 = true) : cpF N bs [a, b] = 0 ∧ ∃ s, Pth bs a.toNat (l.map Int.toNat) b.toNat s ∧ s ≤ most := by
  unfold chF at h
  split at h
  · rename_i hc
    split at h
    · cases h
    · obtain ⟨hok, _⟩ := ok_of_check (cpF_zero hc)
      dsimp only at h
      rcases hg : flG bs l (a, 0) with _ | ⟨t, s⟩
      · rw [hg] at h; cases h
      · rw [hg] at h
        simp only [isPath, Bool.and_eq_true, decide_eq_true_eq] at h
        obtain ⟨rfl, h2⟩ := h
        exact ⟨hc, s, ((flG_path hok hl hg).1).cast (by omega), h2⟩
  · cases h
theorem chF_err {N : Int} {bs : List Bd} {l : List Int} {a b most : Int} : (chF N bs l a b most).2 = cpF N bs [a, b] := by
  unfold chF
  split
  · rename_i h
    rw [h]
    split <;> rfl
  · rfl
theorem chF_mk {N : Int} {bs : List Bd} {l : List Nat} {a b : Int} (hc : cpF N bs [a, b] = 0) {s : Int} (h : Pth bs a.toNat l b.toNat s) (hlen : l.length ≤ 2000) (most : Int) : chF N bs (zl l) a b most = (decide (s ≤ most), 0) := by
  obtain ⟨hok, _⟩ := ok_of_check (cpF_zero hc)
  have ha := pts_of hc (p := a) (by simp)
  have hb := pts_of hc (p := b) (by simp)
  have := path_flG hok h 0
  rw [show ((a.toNat : Nat) : Int) = a by omega, show ((b.toNat : Nat) : Int) = b by omega] at this
  rw [chF, if_pos hc, if_neg (by rw [zl_length]; omega), this, isPath]
  simp

/-- The path that is found proves the distance, and no less. -/
structure SharpOk (N : Int) (bs : List Bd) (a b : Int) : Prop where
  none : dF N bs a b = NONE → paF N bs a b = ([], 5)
  some : dF N bs a b ≠ NONE → (paF N bs a b).2 = 0 ∧ (paF N bs a b).1.length ≤ 128 ∧ chF N bs (zl (paF N bs a b).1) a b (dF N bs a b) = (true, 0) ∧ chF N bs (zl (paF N bs a b).1) a b (dF N bs a b - 1) = (false, 0)
  proved : ∀ l most, (chF N bs l a b most).1 = true → dF N bs a b ≠ NONE ∧ dF N bs a b ≤ most
  keeps : ∀ l most y, (chF N bs l a b most).1 = true → Pot bs y → y b.toNat - y a.toNat ≤ most
  high : ∀ y, Pot bs y → dF N bs a b ≠ NONE → y b.toNat - y a.toNat ≤ dF N bs a b
  low : ∀ y, Pot bs y → dF N bs b a ≠ NONE → -(dF N bs b a) ≤ y b.toNat - y a.toNat
theorem sharp_ok {N : Int} {bs : List Bd} {a b : Int} (hl : ∀ b ∈ bs, b.gone = false) (hs : soundF N bs [a, b] = 0) : SharpOk N bs a b := by
  obtain ⟨hcp, hco, hc⟩ := sound_zero hs
  obtain ⟨hok, hNt⟩ := ok_of_check hc
  have hN := (cons_iff hok).1 hco
  have ha := pts_of hcp (p := a) (by simp)
  have hb := pts_of hcp (p := b) (by simp)
  have ht := hok.top
  have da := dist_ok hok hN (a := a.toNat) (by omega)
  have db := dist_ok hok hN (a := b.toNat) (by omega)
  have e1 : dF N bs a b = gt (distF bs N.toNat a.toNat) b.toNat := rfl
  have e2 : dF N bs b a = gt (distF bs N.toNat b.toNat) a.toNat := rfl
  refine ⟨fun h => by rw [paF, if_pos hs, if_pos h], fun h => ?_, fun l most h => ?_, fun l most y h hy => ?_, fun y hy h => ?_, fun y hy h => ?_⟩
  · have hpa : paF N bs a b = ((fpF bs N.toNat a.toNat b.toNat (dF N bs a b) N.toNat).1, 0) := by rw [paF, if_pos hs, if_neg h]
    have hsm := (dist_small hok hN (a := a.toNat) (by omega) b.toNat).resolve_left (by rw [← e1]; exact h)
    obtain ⟨f1, f2⟩ := fpF_ok hok (a := a.toNat) (b := b.toNat) (by omega) (by omega) (dF N bs a b) (by omega) N.toNat (by omega)
    have hfound : (fpF bs N.toNat a.toNat b.toNat (dF N bs a b) N.toNat).2 = true := by
      rcases hf : (fpF bs N.toNat a.toNat b.toNat (dF N bs a b) N.toNat).2 with _ | _
      · exfalso
        obtain ⟨l, hl'⟩ := da.some b.toNat (by omega) (by rw [← e1]; exact h)
        obtain ⟨l', s', h1, h2, h3, _⟩ := short hok hN hl' (by omega)
        have := f2 hf l' s' h1 (by omega)
        omega
      · rfl
    obtain ⟨s, g1, g2, g3, g4⟩ := f1 hfound
    have g5 := (da.le _ _ _ g1).2
    have hse : s = dF N bs a b := by omega
    subst hse
    rw [hpa]
    refine ⟨rfl, by dsimp only; omega, ?_, ?_⟩
    · rw [chF_mk hcp g1 (by omega)]; simp
    · rw [chF_mk hcp g1 (by omega), decide_eq_false (by omega)]
  · obtain ⟨_, s, h1, h2⟩ := chF_path hl h
    have := da.le _ _ _ h1
    rw [e1]
    exact ⟨this.1, by omega⟩
  · obtain ⟨_, s, h1, h2⟩ := chF_path hl h
    have := hy.path h1
    omega
  · have := da.pot (v := b.toNat) (by omega) (by rw [← e1]; exact h) hy
    omega
  · have := db.pot (v := a.toNat) (by omega) (by rw [← e2]; exact h) hy
    omega

end Go.Proofs.Yteiaofgkmgllcaa.Ln

