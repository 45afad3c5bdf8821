/-
  The reference's Some, plainly: the points' values one by one, and why they are those of the program.
-/
import Derived.Test.YteiaofgkmgllcaaMtx
import Derived.Test.YteiaofgkmgllcaaPots
set_option linter.unusedVariables false
set_option linter.unusedSimpArgs false
namespace Go.Proofs.Yteiaofgkmgllcaa.Ln

theorem valK_snd (D : List Int) (s : List Int × List Nat) (l : List Nat) : (valK D s l).2 = s.2 ++ l := by
  induction l generalizing s with
  | nil => simp [valK]
  | cons p l ih =>
    show (valK D (valS D s p) l).2 = _
    rw [ih (valS D s p)]
    show (s.2 ++ [p]) ++ l = _
    rw [List.append_assoc]
    rfl
theorem valK_snoc (D : List Int) (s : List Int × List Nat) (l : List Nat) (p : Nat) : valK D s (l ++ [p]) = valS D (valK D s l) p := by
  rw [valK, List.foldl_append]
  rfl

/-- Values and given points when the points below k have been gone through. -/
def stK (bs : List Bd) (N k : Nat) : List Int × List Nat := valK (adF bs N) (y1 (distF bs N 0) N, gvl (distF bs N 0) N) (opn (distF bs N 0) k)
theorem stK_all (bs : List Bd) (N : Nat) : valF bs N = (stK bs N N).1 := rfl
theorem stK_len (bs : List Bd) (N k : Nat) : (stK bs N k).1.length = N := by
  unfold stK
  rw [(valK_length _ _ _).1]
  exact y1_length _ _
theorem stK_mem (bs : List Bd) {N k g : Nat} (hg : g < N) : g ∈ (stK bs N k).2 ↔ gt (distF bs N 0) g ≠ NONE ∨ g < k := by
  unfold stK
  rw [valK_snd, List.mem_append]
  show g ∈ gvl (distF bs N 0) N ∨ _ ↔ _
  have h1 : g ∈ gvl (distF bs N 0) N ↔ g < N ∧ gt (distF bs N 0) g ≠ NONE := by simp [gvl]
  have h2 : g ∈ opn (distF bs N 0) k ↔ g < k ∧ gt (distF bs N 0) g = NONE := by simp [opn]
  rw [h1, h2]
  by_cases e : gt (distF bs N 0) g = NONE
  · simp [e]
  · simp [e, hg]
theorem stK_lt {bs : List Bd} {N k g : Nat} (hk : k ≤ N) (h : g ∈ (stK bs N k).2) : g < N := by
  unfold stK at h
  rw [valK_snd, List.mem_append] at h
  rcases h with h | h
  · exact gvl_lt h
  · have := opn_lt h
    omega
theorem stK_zero (bs : List Bd) (N : Nat) : stK bs N 0 = (y1 (distF bs N 0) N, gvl (distF bs N 0) N) := rfl
theorem stK_skip {bs : List Bd} {N k : Nat} (hk : k < N) (h : k ∈ (stK bs N k).2) : stK bs N (k + 1) = stK bs N k := by
  have h1 := ((stK_mem bs hk).1 h).resolve_right (by omega)
  unfold stK
  rw [opn_some h1]
theorem stK_step {bs : List Bd} {N k : Nat} (hk : k < N) (h : k ∉ (stK bs N k).2) : stK bs N (k + 1) = valS (adF bs N) (stK bs N k) k := by
  have h1 : gt (distF bs N 0) k = NONE := Decidable.byContradiction fun e => h ((stK_mem bs hk).2 (.inl e))
  unfold stK
  rw [opn_none h1, valK_snoc]
theorem stK_small {bs : List Bd} {N : Nat} (hok : Ok N bs) (hN : NoNeg bs) (h14 : N ≤ 14) {k : Nat} (hk : k ≤ N) (j : Nat) : -200000000 ≤ gt (stK bs N k).1 j ∧ gt (stK bs N k).1 j ≤ 200000000 := by
  have hpos := hok.pos
  have hd : Tm 13000000 (adF bs N) := fun i => by
    rcases adF_small hok hN i with h | h
    · exact .inl h
    · exact .inr (by omega)
  have hr : Tm 13000000 (distF bs N 0) := fun i => by
    rcases dist_small hok hN (a := 0) (by omega) i with h | h
    · exact .inl h
    · exact .inr (by omega)
  have h := valK_cl (s := (y1 (distF bs N 0) N, gvl (distF bs N 0) N)) (y1_cl hr (by omega) N) hd (by omega) (by omega) (opn (distF bs N 0) k) j
  have hl := opn_length (distF bs N 0) k
  unfold stK
  have : (13000000 : Int) + 13000000 * ((opn (distF bs N 0) k).length : Int) ≤ 200000000 := by
    have : ((opn (distF bs N 0) k).length : Int) ≤ 14 := by omega
    omega
  omega

/-- One point's search, when the points below q have been looked at. -/
structure VI (D y : List Int) (S : List Nat) (p q : Nat) (v : Int) (h : Int × Bool) : Prop where
  pos : 0 ≤ v
  all : ∀ g x, g < q → g ∈ S → loV D y p g = some x → x ≤ v
  one : v = 0 ∨ ∃ g, g < q ∧ g ∈ S ∧ loV D y p g = some v
  hi : EndOk (fun g => g < q ∧ g ∈ S) (hiV D y p) (fun a b => b ≤ a) h

theorem VI.zero (D y : List Int) (S : List Nat) (p : Nat) : VI D y S p 0 0 (0, false) :=
  ⟨Int.le_refl _, fun g x h => absurd h (by omega), .inl rfl, ⟨fun e => (by cases e), fun g x h => absurd h.1 (by omega)⟩⟩

theorem VI.step {D y : List Int} {S : List Nat} {p q : Nat} {v : Int} {h : Int × Bool} (k : VI D y S p q v h) {x1 x2 : Int} {o1 o2 : Bool} (h1 : (x1, o1) = ffar (gt D (p * 128 + q))) (h2 : (x2, o2) = ffar (gt D (q * 128 + p))) (hd : Bool) (hS : hd = true ↔ q ∈ S) :
    VI D y S p (q + 1) (if hd = true ∧ o1 = true then max v (gt y q - x1) else v) (if hd = true ∧ o2 = true then lesserF h (gt y q + x2, true) else h) := by
  have lo : loV D y p q = if o1 = true then some (gt y q - x1) else none := by
    unfold loV
    unfold ffar at h1
    by_cases e : gt D (p * 128 + q) = NONE
    · rw [if_pos e] at h1 ⊢
      cases h1
      rfl
    · rw [if_neg e] at h1 ⊢
      cases h1
      rfl
  have hi : hiV D y p q = if o2 = true then some (gt y q + x2) else none := by
    unfold hiV
    unfold ffar at h2
    by_cases e : gt D (q * 128 + p) = NONE
    · rw [if_pos e] at h2 ⊢
      cases h2
      rfl
    · rw [if_neg e] at h2 ⊢
      cases h2
      rfl
  refine ⟨?_, fun g x hg hm hx => ?_, ?_, ?_⟩
  · have := k.pos
    split <;> omega
  · by_cases e : g = q
    · subst e
      rw [lo] at hx
      split at hx
      · rename_i ho
        simp only [Option.some.injEq] at hx
        rw [if_pos ⟨hS.2 hm, ho⟩]
        omega
      · cases hx
    · have := k.all g x (by omega) hm hx
      split <;> omega
  · split
    · rename_i hc
      by_cases hv : v < gt y q - x1
      · refine .inr ⟨q, by omega, hS.1 hc.1, ?_⟩
        rw [lo, if_pos hc.2]
        congr 1
        omega
      · have e : max v (gt y q - x1) = v := by omega
        rw [e]
        exact k.one.imp id fun ⟨g, a, b, c⟩ => ⟨g, by omega, b, c⟩
    · exact k.one.imp id fun ⟨g, a, b, c⟩ => ⟨g, by omega, b, c⟩
  · by_cases hc : hd = true ∧ o2 = true
    · rw [if_pos hc]
      have hx : hiV D y p q = some (gt y q + x2) := by rw [hi, if_pos hc.2]
      have hq := hS.1 hc.1
      obtain ⟨h0, b⟩ := h
      by_cases hb : b = true
      · subst hb
        by_cases hlt : gt y q + x2 < h0
        · have e : lesserF (h0, true) (gt y q + x2, true) = (gt y q + x2, true) := by simp [lesserF, hlt]
          rw [e]
          refine ⟨fun _ => ⟨q, ⟨by omega, hq⟩, hx⟩, fun g x hg hgx => ⟨rfl, ?_⟩⟩
          by_cases eg : g = q
          · subst eg
            rw [hx] at hgx
            cases hgx
            exact Int.le_refl _
          · have := (k.hi.all g x ⟨by omega, hg.2⟩ hgx).2
            dsimp only at this ⊢
            omega
        · have e : lesserF (h0, true) (gt y q + x2, true) = (h0, true) := by simp [lesserF, hlt]
          rw [e]
          refine ⟨fun e2 => ?_, fun g x hg hgx => ⟨rfl, ?_⟩⟩
          · obtain ⟨g, a, c⟩ := k.hi.some e2
            exact ⟨g, ⟨by omega, a.2⟩, c⟩
          · by_cases eg : g = q
            · subst eg
              rw [hx] at hgx
              cases hgx
              dsimp only
              omega
            · exact (k.hi.all g x ⟨by omega, hg.2⟩ hgx).2
      · obtain rfl : b = false := by simpa using hb
        rw [lesserF_new rfl]
        refine ⟨fun _ => ⟨q, ⟨by omega, hq⟩, hx⟩, fun g x hg hgx => ⟨rfl, ?_⟩⟩
        by_cases eg : g = q
        · subst eg
          rw [hx] at hgx
          cases hgx
          exact Int.le_refl _
        · have := (k.hi.all g x ⟨by omega, hg.2⟩ hgx).1
          cases this
    · rw [if_neg hc]
      refine ⟨fun e2 => ?_, fun g x hg hgx => ?_⟩
      · obtain ⟨g, a, c⟩ := k.hi.some e2
        exact ⟨g, ⟨by omega, a.2⟩, c⟩
      · by_cases eg : g = q
        · subst eg
          rw [hi] at hgx
          split at hgx
          · rename_i ho
            exact absurd ⟨hS.2 hg.2, ho⟩ hc
          · cases hgx
        · exact k.hi.all g x ⟨by omega, hg.2⟩ hgx

theorem VI.fin {D y : List Int} {S : List Nat} {p N : Nat} {v : Int} {h : Int × Bool} (k : VI D y S p N v h) (hS : ∀ g ∈ S, g < N) : (if h.2 = true then min v h.1 else v) = lfzF (possF D y p S).1 (possF D y p S).2 := by
  obtain ⟨lo, hi⟩ := possF_ok D y p S
  obtain ⟨⟨⟨l0, l⟩, ⟨r0, r⟩⟩, hr⟩ : ∃ r, possF D y p S = r := ⟨_, rfl⟩
  rw [hr] at lo hi ⊢
  dsimp only at lo hi ⊢
  obtain ⟨h0, hb⟩ := h
  have c1 : v = if l = true then max 0 l0 else 0 := by
    by_cases e : l = true
    · rw [if_pos e]
      obtain ⟨g, hg, hx⟩ := lo.some e
      have h1 := k.all g _ (hS g hg) hg hx
      dsimp only at h1
      have h2 := k.pos
      rcases k.one with h3 | ⟨g2, a, b, c⟩
      · omega
      · have := (lo.all g2 v b c).2
        dsimp only at this
        omega
    · rw [if_neg e]
      rcases k.one with h3 | ⟨g2, a, b, c⟩
      · exact h3
      · exact absurd (lo.all g2 v b c).1 e
  have c2 : hb = r := by
    rw [Bool.eq_iff_iff]
    refine ⟨fun e => ?_, fun e => ?_⟩
    · obtain ⟨g, a, c⟩ := k.hi.some e
      exact (hi.all g _ a.2 c).1
    · obtain ⟨g, a, c⟩ := hi.some e
      exact (k.hi.all g _ ⟨hS g a, a⟩ c).1
  have c3 : r = true → h0 = r0 := fun e => by
    obtain ⟨g, a, c⟩ := hi.some e
    obtain ⟨g2, a2, c'⟩ := k.hi.some (by rw [c2]; exact e)
    have h1 := (hi.all g2 _ a2.2 c').2
    have h2 := (k.hi.all g _ ⟨hS g a, a⟩ c).2
    dsimp only at h1 h2
    omega
  subst c2
  unfold lfzF
  dsimp only
  rw [← c1]
  by_cases e : hb = true
  · rw [if_pos e, if_pos e, c3 e]
  · rw [if_neg e, if_neg e]

/-! A tie of the point 0 to 0 says nothing. -/
theorem relax_self {s : List Int × Bool} {b : Bd} (h : b.f = b.t) (hm : 0 ≤ b.m) : relax s b = s := by
  unfold relax
  rw [h, if_neg (by omega)]
theorem idx_tie {bs : List Bd} (p : Nat) : idx (bs ++ tieL 0 0) p = idx bs p ++ (if p = 0 then [bs.length, bs.length + 1] else []) := by
  have e0 : bd (bs ++ tieL 0 0) bs.length = ⟨0, 0, 0, 0, false⟩ := bd_app_right (i := 0) (by simp [tieL])
  have e1 : bd (bs ++ tieL 0 0) (bs.length + 1) = ⟨0, 0, -0, 0, false⟩ := bd_app_right (i := 1) (by simp [tieL])
  have hk : ∀ k, k ≤ bs.length → idxk (bs ++ tieL 0 0) k p = idxk bs k p := fun k hk => by
    unfold idxk
    refine List.filter_congr fun i hi => ?_
    rw [bd_app_left (by have := List.mem_range.1 hi; omega)]
  unfold idx
  rw [List.length_append, show (tieL 0 0).length = 2 from rfl]
  by_cases hp : p = 0
  · subst hp
    rw [if_pos rfl, show bs.length + 2 = (bs.length + 1) + 1 from rfl, idxk_hit (by rw [e1]; rfl) (by rw [e1]), idxk_hit (by rw [e0]; rfl) (by rw [e0]), hk _ (Nat.le_refl _)]
    simp
  · rw [if_neg hp, show bs.length + 2 = (bs.length + 1) + 1 from rfl, idxk_miss (by rw [e1]; show (0 : Int) ≠ p; omega), idxk_miss (by rw [e0]; show (0 : Int) ≠ p; omega), hk _ (Nat.le_refl _), List.append_nil]
theorem relaxL_app {bs cs : List Bd} (l : List Nat) (hl : ∀ i ∈ l, i < bs.length) (s : List Int × Bool) : relaxL (bs ++ cs) l s = relaxL bs l s := by
  induction l generalizing s with
  | nil => rfl
  | cons i l ih =>
    show relaxL (bs ++ cs) l (relax s (bd (bs ++ cs) i)) = relaxL bs l (relax s (bd bs i))
    rw [bd_app_left (hl i (by simp)), ih (fun j hj => hl j (by simp [hj]))]
theorem relaxP_tie (bs : List Bd) (s : List Int × Bool) (p : Nat) : relaxP (bs ++ tieL 0 0) s p = relaxP bs s p := by
  have e0 : bd (bs ++ tieL 0 0) bs.length = ⟨0, 0, 0, 0, false⟩ := bd_app_right (i := 0) (by simp [tieL])
  have e1 : bd (bs ++ tieL 0 0) (bs.length + 1) = ⟨0, 0, -0, 0, false⟩ := bd_app_right (i := 1) (by simp [tieL])
  unfold relaxP
  have h : relaxL (bs ++ tieL 0 0) (idx (bs ++ tieL 0 0) p) s = relaxL bs (idx bs p) s := by
    rw [idx_tie]
    by_cases hp : p = 0
    · rw [if_pos hp, show [bs.length, bs.length + 1] = [bs.length] ++ [bs.length + 1] from rfl, ← List.append_assoc, relaxL_snoc, relaxL_snoc, e0, e1, relax_self rfl (by show (0 : Int) ≤ -0; omega), relax_self rfl (by show (0 : Int) ≤ 0; omega)]
      exact relaxL_app _ (fun i hi => (idx_lt hi).1) s
    · rw [if_neg hp, List.append_nil]
      exact relaxL_app _ (fun i hi => (idx_lt hi).1) s
  rw [h]
theorem roundF_tie (bs : List Bd) (N : Nat) (s : List Int × Bool) : roundF (bs ++ tieL 0 0) N s = roundF bs N s := by
  induction N with
  | zero => rfl
  | succ N ih => rw [roundF_succ, roundF_succ, ih, relaxP_tie]
theorem settleF_tie (bs : List Bd) (N k : Nat) (d : List Int) : settleF (bs ++ tieL 0 0) N k d = settleF bs N k d := by
  induction k generalizing d with
  | zero => rfl
  | succ k ih =>
    rw [settleF, settleF, roundF_tie]
    split
    · exact ih _
    · rfl
theorem consF_tie (bs : List Bd) (N : Nat) : consF (bs ++ tieL 0 0) N = consF bs N := by rw [consF, consF, settleF_tie]
theorem distF_tie (bs : List Bd) (N : Nat) : distF (bs ++ tieL 0 0) N = distF bs N := by
  funext a
  rw [distF, distF, settleF_tie]
theorem valF_tie (bs : List Bd) (N : Nat) : valF (bs ++ tieL 0 0) N = valF bs N := by
  unfold valF adF
  rw [distF_tie]
theorem tie_neg {N : Int} {bs : List Bd} {v : Int} (hc : cpF N bs [0] = 0) (hv : within v 1000000 = true) (h0 : v ≠ 0) : consF (bs ++ tieL 0 v) N.toNat = false := by
  have hok := tie_ok hc hv
  rw [Bool.eq_false_iff]
  intro h
  have hN := (cons_iff hok).1 h
  have e0 : bd (bs ++ tieL 0 v) bs.length = ⟨0, 0, v, 0, false⟩ := bd_app_right (i := 0) (by simp [tieL])
  have e1 : bd (bs ++ tieL 0 v) (bs.length + 1) = ⟨0, 0, -v, 0, false⟩ := bd_app_right (i := 1) (by simp [tieL])
  have p0 := Pth.one (bs := bs ++ tieL 0 v) (i := bs.length) ⟨by simp [tieL], by rw [e0]⟩
  have p1 := Pth.one (bs := bs ++ tieL 0 v) (i := bs.length + 1) ⟨by simp [tieL], by rw [e1]⟩
  rw [e0] at p0
  rw [e1] at p1
  have h1 := hN _ _ _ p0
  have h2 := hN _ _ _ p1
  dsimp only at h1 h2
  omega

end Go.Proofs.Yteiaofgkmgllcaa.Ln
