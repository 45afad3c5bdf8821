/-
  The reference's rounds: all bounds in their order, at most one round more than there are points; they rest exactly where no circle is negative.
-/
import Derived.Test.YtppfpdhgckghdaaPots
set_option linter.unusedVariables false
set_option linter.unusedSimpArgs false
namespace Go.Proofs.Ytppfpdhgckghdaa.Ln

def rcK (bs : List Bd) (d : List Int) (k : Nat) : List Int × Bool := relaxL bs (List.range k) (d, false)
theorem rcK_zero (bs : List Bd) (d : List Int) : rcK bs d 0 = (d, false) := rfl
theorem rcK_succ (bs : List Bd) (d : List Int) (k : Nat) : rcK bs d (k + 1) = relax (rcK bs d k) (bd bs k) := by rw [rcK, List.range_succ, relaxL_snoc]; rfl
def settleR (bs : List Bd) : Nat → List Int → Bool
  | 0, _ => false
  | k + 1, d => if (rcK bs d bs.length).2 then settleR bs k (rcK bs d bs.length).1 else true
/-- The reference's consistent. -/
def consR (bs : List Bd) (N : Nat) : Bool := settleR bs (N + 1) (List.replicate N 0)

/-- What becomes of a state in a part of a round: all points have numbers. -/
structure Sr (bs : List Bd) (N : Nat) (d : List Int) (d' : List Int) (b' : Bool) : Prop where
  len : d'.length = N
  mono : ∀ v, v < N → gt d' v ≤ gt d v
  flag : b' = false → d' = d
  strict : b' = true → ∃ v, v < N ∧ gt d' v < gt d v
  ways : ∀ R : Nat → Int → Prop, (∀ i, Lv1 bs i → ∀ s, R (bd bs i).f.toNat s → R (bd bs i).t.toNat (s + (bd bs i).m)) → (∀ v, v < N → R v (gt d v)) → ∀ v, v < N → R v (gt d' v)

theorem rcK_sr {bs : List Bd} {N : Nat} (hok : Ok N bs) (hl : ∀ b ∈ bs, b.gone = false) (d : List Int) (hd : d.length = N) (k : Nat) (hk : k ≤ bs.length) :
    Sr bs N d (rcK bs d k).1 (rcK bs d k).2 ∧ ∀ i, i < k → gt (rcK bs d k).1 (bd bs i).t.toNat ≤ gt d (bd bs i).f.toNat + (bd bs i).m := by
  induction k with
  | zero => exact ⟨⟨hd, fun _ _ => Int.le_refl _, fun _ => rfl, fun h => (by cases h), fun _ _ h => h⟩, fun i h => by omega⟩
  | succ k ih =>
    obtain ⟨h1, h2⟩ := ih (by omega)
    have hi : Lv1 bs k := ⟨by omega, hl _ (bd_mem (by omega))⟩
    obtain ⟨hf, ht, _⟩ := hok.pts hi
    rw [rcK_succ]
    obtain ⟨⟨e, b⟩, he⟩ : ∃ s, rcK bs d k = s := ⟨_, rfl⟩
    rw [he] at h1 h2 ⊢
    have hlt : (bd bs k).t.toNat < e.length := by have := h1.len; dsimp only at this; omega
    have hmf := h1.mono _ hf
    have hmt := h1.mono _ ht
    dsimp only at hmf hmt h2
    unfold relax
    dsimp only
    split
    · rename_i h
      refine ⟨⟨by have := h1.len; simpa using this, fun v hv => ?_, fun e => (by cases e), fun _ => ⟨(bd bs k).t.toNat, ht, ?_⟩, fun R hc h0 v hv => ?_⟩, fun i hik => ?_⟩
      · dsimp only
        rw [gt_set _ _ _ _ hlt]
        have := h1.mono v hv
        dsimp only at this
        split
        · rename_i e1; subst e1; omega
        · exact this
      · dsimp only
        rw [gt_set _ _ _ _ hlt, if_pos rfl]
        omega
      · dsimp only
        rw [gt_set _ _ _ _ hlt]
        split
        · rename_i e1
          rw [e1]
          exact hc k hi _ (h1.ways R hc h0 _ hf)
        · exact h1.ways R hc h0 v hv
      · dsimp only
        rw [gt_set _ _ _ _ hlt]
        rcases Nat.lt_or_ge i k with hik2 | hik2
        · have := h2 i hik2
          split
          · rename_i e1
            rw [e1] at this
            omega
          · exact this
        · obtain rfl : i = k := by omega
          rw [if_pos rfl]
          omega
    · rename_i h
      refine ⟨h1, fun i hik => ?_⟩
      rcases Nat.lt_or_ge i k with hik2 | hik2
      · exact h2 i hik2
      · obtain rfl : i = k := by omega
        dsimp only
        omega

theorem settleR_yes {bs : List Bd} {N : Nat} (hok : Ok N bs) (hl : ∀ b ∈ bs, b.gone = false) (r : Nat) (d : List Int) (hd : d.length = N) (h : settleR bs r d = true) : ∃ y, Pot bs y := by
  induction r generalizing d with
  | zero => cases h
  | succ r ih =>
    obtain ⟨h1, h2⟩ := rcK_sr hok hl d hd bs.length (Nat.le_refl _)
    rw [settleR] at h
    split at h
    · exact ih _ h1.len h
    · rename_i hb
      have e := h1.flag (by simpa using hb)
      refine ⟨gt d, fun i hi => ?_⟩
      have := h2 i hi.1
      rw [e] at this
      exact this

theorem settleR_no {bs : List Bd} {N : Nat} (hok : Ok N bs) (hl : ∀ b ∈ bs, b.gone = false) (r : Nat) (hr : 0 < r) (d : List Int) (hd : d.length = N) (h : settleR bs r d = false) :
    ∃ v x, v < N ∧ (∀ R : Nat → Int → Prop, (∀ i, Lv1 bs i → ∀ s, R (bd bs i).f.toNat s → R (bd bs i).t.toNat (s + (bd bs i).m)) → (∀ v, v < N → R v (gt d v)) → R v x) ∧
      ∀ p l s, p < N → Pth bs p l v s → l.length + 1 ≤ r → x < gt d p + s := by
  induction r generalizing d with
  | zero => omega
  | succ r ih =>
    obtain ⟨h1, h2⟩ := rcK_sr hok hl d hd bs.length (Nat.le_refl _)
    rw [settleR] at h
    split at h
    · rename_i hb
      by_cases hr0 : 0 < r
      · obtain ⟨v, x, hv, hw, hlow⟩ := ih hr0 _ h1.len h
        refine ⟨v, x, hv, fun R hc h0 => hw R hc (h1.ways R hc h0), fun p l s hp hpath hlen => ?_⟩
        cases hpath with
        | nil p =>
          have := hlow v [] 0 hv (.nil _) (by simp; omega)
          have := h1.mono v hv
          omega
        | @cons i l q s hi hpath =>
          have hpt := hok.pts hi
          simp only [List.length_cons] at hlen
          have := hlow _ _ _ hpt.2.1 hpath (by omega)
          have := h2 i hi.1
          omega
      · obtain ⟨v, hv, hlt⟩ := h1.strict hb
        refine ⟨v, _, hv, fun R hc h0 => h1.ways R hc h0 v hv, fun p l s hp hpath hlen => ?_⟩
        cases hpath with
        | nil p => omega
        | cons => simp at hlen; omega
    · cases h

theorem rep_at {N v : Nat} (h : v < N) : gt (List.replicate N (0 : Int)) v = 0 := gt_rep h 0

/-- The reference's consistent is the program's. -/
theorem consR_eq {bs : List Bd} {N : Nat} (hok : Ok N bs) (hl : ∀ b ∈ bs, b.gone = false) : consR bs N = consF bs N := by
  have hpos := hok.pos
  have hci := cons_iff hok
  rcases h : consR bs N with _ | _
  · rcases h2 : consF bs N with _ | _
    · rfl
    · exfalso
      have hN := hci.1 h2
      obtain ⟨v, x, hv, hw, hlow⟩ := settleR_no hok hl (N + 1) (by omega) (List.replicate N 0) (by simp) h
      obtain ⟨p, l, s, hp, hpath, hx⟩ := hw (fun v x => ∃ p l s, p < N ∧ Pth bs p l v s ∧ x = s)
        (fun i hi s ⟨p, l, u, a, b, c⟩ => ⟨p, l ++ [i], u + (bd bs i).m, a, b.append (Pth.one hi), by omega⟩)
        (fun v hv => ⟨v, [], 0, hv, .nil _, rep_at hv⟩)
      obtain ⟨l', s', k1, k2, k3, _⟩ := short hok hN hpath hp
      have := hlow p l' s' hp k1 (by omega)
      rw [rep_at hp] at this
      omega
  · exact ((cons_pot hok).2 (settleR_yes hok hl _ _ (by simp) h)).symm

/-- How great the numbers can become in some rounds. -/
theorem rcK_small {bs : List Bd} {N : Nat} (hok : Ok N bs) (hl : ∀ b ∈ bs, b.gone = false) {d : List Int} (hd : d.length = N) {K : Int} (hK : ∀ v, v < N → -K ≤ gt d v ∧ gt d v ≤ 0) (k : Nat) (hk : k ≤ bs.length) :
    ∀ v, v < N → -(K + 1000000 * (k : Int)) ≤ gt (rcK bs d k).1 v ∧ gt (rcK bs d k).1 v ≤ 0 := by
  induction k with
  | zero => intro v hv; have := hK v hv; rw [rcK_zero]; dsimp only; omega
  | succ k ih =>
    intro v hv
    have ih := ih (by omega)
    have h1 := (rcK_sr hok hl d hd k (by omega)).1.len
    have hi : Lv1 bs k := ⟨by omega, hl _ (bd_mem (by omega))⟩
    obtain ⟨hf, ht, _, _, m0, m1⟩ := hok.pts hi
    rw [rcK_succ]
    unfold relax
    have e1 := ih v hv
    have e2 := ih _ hf
    have e3 := ih _ ht
    split
    · dsimp only
      rw [gt_set _ _ _ _ (by omega)]
      split <;> omega
    · omega

end Go.Proofs.Ytppfpdhgckghdaa.Ln
