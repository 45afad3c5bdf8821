/-
  Path and Circle, plainly: the reference's are the program's.
-/
import Derived.Test.YteiaofgkmgllcaaStpM
set_option linter.unusedVariables false
set_option linter.unusedSimpArgs false
namespace Go.Proofs.Yteiaofgkmgllcaa.Ln

/-! ### Path -/
/-- The reference's first row that shows the distance. -/
theorem path_ref {bs : List Bd} {N : Nat} (hok : Ok N bs) (hl : ∀ b ∈ bs, b.gone = false) (hN : NoNeg bs) {a b : Nat} (ha : a < N) (hb : b < N) (hne : gt (distF bs N a) b ≠ NONE) :
    ∃ k, k ≤ N ∧ (∀ j, j < k → ¬ ((rowG bs 0 b j a).2 = true ∧ (rowG bs 0 b j a).1 = gt (distF bs N a) b)) ∧ ((rowG bs 0 b k a).2 = true ∧ (rowG bs 0 b k a).1 = gt (distF bs N a) b) ∧
      (fpF bs N a b (gt (distF bs N a) b) N).1 = folF bs 0 (rowG bs 0 b) k a (gt (distF bs N a) b) := by
  have ht := hok.top
  have hNN : NONE = 9223372036854775807 := rfl
  have hd := dist_ok hok hN ha
  have hsm := dist_small hok hN ha b
  obtain ⟨d, hdd⟩ : ∃ d, gt (distF bs N a) b = d := ⟨_, rfl⟩
  rw [hdd] at hne hsm ⊢
  have hsm' : d ≤ 1000000 * ((N : Int) - 1) := by omega
  obtain ⟨l0, hl0⟩ := hd.some b (by omega) (by rw [hdd]; exact hne)
  rw [hdd] at hl0
  have hmin : ∀ l s, Pth bs a l b s → d ≤ s := fun l s h => by have := (hd.le _ _ _ h).2; omega
  obtain ⟨l1, s1, p1, q1, n1, _⟩ := simple hN hl0
  have hs1 : s1 = d := by have := hmin _ _ p1; omega
  subst hs1
  have len1 : l1.length ≤ N := by
    have := pigeon (N := N) n1 (fun x hx => by
      simp only [vsF, List.mem_cons, List.mem_map] at hx
      rcases hx with rfl | ⟨i, hi, rfl⟩
      · exact ha
      · exact (hok.pts (p1.live i hi)).2.1)
    simp only [vsF, List.length_cons, List.length_map] at this
    omega
  rcases hm : fpM bs N a b s1 N with _ | k
  · exfalso
    rw [fpM, List.find?_range_eq_none] at hm
    have h1 := hm l1.length (by omega)
    have h2 := ((row_ok hok hb l1.length (by omega)).le _ _ _ p1 rfl).2
    simp [fpP] at h1
    omega
  · have hk := hm
    rw [fpM, List.find?_range_eq_some] at hk
    obtain ⟨h1, h2, h3⟩ := hk
    have hkN : k ≤ N := by simpa [Nat.lt_succ_iff] using h2
    simp only [fpP, decide_eq_true_eq] at h1
    have hfp := wkF_fp hok hb k (by omega) a ha s1 (by omega) h1
    have hrow : ∀ j, (rowG bs 0 b j a).2 = true ∧ (rowG bs 0 b j a).1 = s1 ↔ ∃ l, PS bs 0 j a b s1 l := fun j => by
      have r := rowG_ok hl 0 b j
      constructor
      · rintro ⟨x, y⟩
        obtain ⟨l, c, e, f⟩ := r.some _ x
        exact ⟨l, ⟨_, c, by omega⟩, e, f⟩
      · rintro ⟨l, ⟨s, c, e⟩, f, g⟩
        obtain ⟨x, y⟩ := r.le _ _ _ c f g
        obtain ⟨l', c', _, _⟩ := r.some _ x
        have := hmin _ _ c'
        exact ⟨x, by omega⟩
    refine ⟨k, hkN, fun j hj hc => ?_, (hrow k).2 ⟨_, hfp.is⟩, ?_⟩
    · obtain ⟨l, ⟨s, c, e⟩, f, g⟩ := (hrow j).1 hc
      have h4 := h3 j hj
      have h5 := ((row_ok hok hb j (by omega)).le _ _ _ c f).2
      simp [fpP] at h4
      omega
    · rw [fpF, hm]
      exact hfp.unique (folF_fp hok hl k a ha s1 ⟨_, hfp.is⟩)

/-! ### Circle -/
theorem Pth.append_inv {bs : List Bd} {p q : Nat} {l1 l2 : List Nat} {s : Int} (h : Pth bs p (l1 ++ l2) q s) : ∃ x s1 s2, Pth bs p l1 x s1 ∧ Pth bs x l2 q s2 ∧ s = s1 + s2 := by
  induction l1 generalizing p s with
  | nil => exact ⟨p, 0, s, .nil _, h, by omega⟩
  | cons i l1 ih =>
    cases h with
    | @cons _ _ _ s hi h =>
      obtain ⟨x, s1, s2, a, b, c⟩ := ih h
      exact ⟨x, _, s2, .cons hi a, b, by omega⟩
theorem Pth.head {bs : List Bd} {p q i : Nat} {l : List Nat} {s : Int} (h : Pth bs p (i :: l) q s) : (bd bs i).f.toNat = p ∧ Lv1 bs i ∧ Pth bs (bd bs i).t.toNat l q (s - (bd bs i).m) := by
  cases h with
  | cons hi h => exact ⟨rfl, hi, h.cast (by omega)⟩

theorem nodup_of_map {f : Nat → Nat} {l : List Nat} (h : (l.map f).Nodup) : l.Nodup := by
  induction l with
  | nil => exact List.nodup_nil
  | cons x l ih =>
    rw [List.map_cons, List.nodup_cons] at h
    exact List.nodup_cons.2 ⟨fun hx => h.1 (List.mem_map.2 ⟨x, hx, rfl⟩), ih h.2⟩
/-- A circle, begun at its least index. -/
theorem turned {bs : List Bd} {p : Nat} {l : List Nat} {s : Int} (h : Neg bs p l s) (hn : (l.map (fun i => (bd bs i).f.toNat)).Nodup) (hne : l ≠ []) :
    ∃ i l', Neg bs (bd bs i).f.toNat (i :: l') s ∧ (∀ j ∈ l', i < j) ∧ l'.length + 1 = l.length ∧ (∀ j ∈ l, i ≤ j) ∧ i ∈ l := by
  obtain ⟨i, hi, hmin⟩ : ∃ i ∈ l, ∀ j ∈ l, i ≤ j := by
    clear h hn
    induction l with
    | nil => exact absurd rfl hne
    | cons x l ih =>
      by_cases e : l = []
      · subst e
        exact ⟨x, by simp, fun j hj => by simp at hj; omega⟩
      · obtain ⟨i, hi, hm⟩ := ih e
        by_cases hx : x ≤ i
        · exact ⟨x, by simp, fun j hj => by
            rcases List.mem_cons.1 hj with rfl | hj
            · omega
            · have := hm j hj; omega⟩
        · exact ⟨i, by simp [hi], fun j hj => by
            rcases List.mem_cons.1 hj with rfl | hj
            · omega
            · exact hm j hj⟩
  obtain ⟨l1, l2, rfl⟩ := List.append_of_mem hi
  have hnd : (l1 ++ i :: l2).Nodup := nodup_of_map hn
  obtain ⟨h1, h2⟩ := h
  obtain ⟨x, s1, s2, a, b, c⟩ := h1.append_inv
  have hx := b.head.1
  refine ⟨i, l2 ++ l1, ⟨?_, h2⟩, fun j hj => ?_, by simp; omega, hmin, hi⟩
  · have := b.append a
    rw [hx]
    exact this.cast (by omega)
  · have h3 : j ∈ l1 ++ i :: l2 := by
      rcases List.mem_append.1 hj with h | h <;> simp [h]
    have h4 := hmin j h3
    have h5 : j ≠ i := by
      rintro rfl
      rw [List.nodup_append] at hnd
      obtain ⟨n1, n2, n3⟩ := hnd
      rcases List.mem_append.1 hj with h | h
      · exact (List.nodup_cons.1 n2).1 h
      · exact n3 j h j (by simp) rfl
    omega

/-- The program's circle is the first of the shortest ones. -/
structure CircMin (bs : List Bd) (k : Nat) (s : List Nat × Nat) : Prop where
  lex : s.1 ≠ [] → ∀ p l u, p < k → Neg bs p l u → l.length = s.1.length → lexLe s.1 l
theorem fpF_lex {bs : List Bd} {N : Nat} (hok : Ok N bs) {a b : Nat} (ha : a < N) (hb : b < N) (most : Int) (hm : most < 1000000000000) (longest : Nat) (hl : longest ≤ 1000) (h : (fpF bs N a b most longest).2 = true) :
    FP bs 0 (fpF bs N a b most longest).1.length a b most (fpF bs N a b most longest).1 := by
  have hNN : NONE = 9223372036854775807 := rfl
  unfold fpF at h ⊢
  rcases hk : fpM bs N a b most longest with _ | k
  · rw [hk] at h; cases h
  · have hkm := hk
    rw [fpM, List.find?_range_eq_some] at hk
    obtain ⟨h1, h2, h3⟩ := hk
    have hkl : k ≤ longest := by simpa [Nat.lt_succ_iff] using h2
    simp only [fpP, decide_eq_true_eq] at h1
    have := wkF_fp hok hb k (by omega) a ha most (by omega) h1
    dsimp only
    rw [this.is.len]
    exact this
theorem circK_min {bs : List Bd} {N : Nat} (hok : Ok N bs) (k : Nat) (hk : k ≤ N) : CircMin bs k (circK bs N k) := by
  have ht := hok.top
  induction k with
  | zero => exact ⟨fun _ p l u h => by omega⟩
  | succ k ih =>
    have ih := ih (by omega)
    have inv := circK_ok hok k (by omega)
    rw [circK_succ]
    generalize circK bs N k = st at ih inv ⊢
    obtain ⟨first, longest⟩ := st
    have hlong : longest ≤ N := by
      by_cases e : first = []
      · have := (inv.nil e).1; dsimp only at this; omega
      · have := (inv.cons e).1; have := (inv.cons e).2.1; dsimp only at *; omega
    obtain ⟨f1, f2⟩ := fpF_ok hok (a := k) (b := k) (by omega) (by omega) (-1) (by decide) longest (by omega)
    have f3 := fpF_lex hok (a := k) (b := k) (by omega) (by omega) (-1) (by decide) longest (by omega)
    unfold circS
    dsimp only
    split
    · rename_i hc
      obtain ⟨s, e1, e2, e3, e4⟩ := f1 hc.1
      refine ⟨fun hne p l u hp hn hlen => ?_⟩
      dsimp only at hlen
      show lexLe (fpF bs N k k (-1) longest).1 l
      have f3 := f3 hc.1
      rcases Nat.lt_or_ge p k with h | h
      · have hfirst : first ≠ [] := fun e => by
          have := (inv.nil e).2 p l u h hn
          omega
        have h1 := (inv.cons hfirst).2.2.2 p l u h hn
        have h0 := (inv.cons hfirst).1
        dsimp only at h1 h0
        have hl2 : (fpF bs N k k (-1) longest).1.length = first.length := by omega
        have h2 := ih.lex hfirst p l u h hn (by dsimp only; omega)
        have h3 := (clF_lex hl2).1 (hc.2.resolve_left hfirst)
        exact lexLe_trans h3 h2
      · obtain rfl : p = k := by omega
        exact f3.least l ⟨⟨u, hn.1, by have := hn.2; omega⟩, hlen, fun i _ => Nat.zero_le _⟩
    · rename_i hc
      refine ⟨fun hne p l u hp hn hlen => ?_⟩
      dsimp only at hlen hne ⊢
      rcases Nat.lt_or_ge p k with h | h
      · exact ih.lex hne p l u h hn hlen
      · obtain rfl : p = k := by omega
        obtain ⟨a, b, c, d⟩ := inv.cons hne
        dsimp only at a
        rcases hfb : (fpF bs N p p (-1) longest).2 with _ | _
        · have := f2 hfb l u hn.1 (by have := hn.2; omega)
          omega
        · obtain ⟨s, e1, e2, e3, e4⟩ := f1 hfb
          have f3 := f3 hfb
          have h5 := e4 l u hn.1 (by have := hn.2; omega)
          have hnlt : ¬ clF (zl (fpF bs N p p (-1) longest).1) (zl first) < 0 := fun hlt => hc ⟨hfb, .inr hlt⟩
          have h6 := clF_ge hnlt
          rw [zl_length, zl_length] at h6
          have hl2 : (fpF bs N p p (-1) longest).1.length = first.length := by omega
          have h7 := (clF_lex hl2).2 hnlt
          exact lexLe_trans h7 (f3.least l ⟨⟨u, hn.1, by have := hn.2; omega⟩, by omega, fun i _ => Nat.zero_le _⟩)

/-- The reference's first loop: the length of the shortest circles that begin with a least index from j on, and the least such index. -/
def ciK (bs : List Bd) (N i : Nat) : Option Nat := (List.range' 1 (N - 1)).find? (fun k => (rowG bs (i + 1) (bd bs i).f.toNat k (bd bs i).t.toNat).2 && decide ((bd bs i).m + (rowG bs (i + 1) (bd bs i).f.toNat k (bd bs i).t.toNat).1 < 0))
def ciS (bs : List Bd) (N : Nat) (s : Nat × Nat) (i : Nat) : Nat × Nat := match ciK bs N i with
  | none => s
  | some k => if s.1 = 0 ∨ k + 1 ≤ s.1 then (k + 1, i) else s
structure CIv (bs : List Bd) (N j : Nat) (s : Nat × Nat) : Prop where
  nil : s.1 = 0 → s.2 = 0 ∧ ∀ i l u, j ≤ i → Neg bs (bd bs i).f.toNat (i :: l) u → (∀ x ∈ l, i < x) → N ≤ l.length
  cons : s.1 ≠ 0 → 2 ≤ s.1 ∧ s.1 ≤ N ∧ j ≤ s.2 ∧ (∃ l u, Neg bs (bd bs s.2).f.toNat (s.2 :: l) u ∧ (∀ x ∈ l, s.2 < x) ∧ l.length + 1 = s.1) ∧
    ∀ i l u, j ≤ i → Neg bs (bd bs i).f.toNat (i :: l) u → (∀ x ∈ l, i < x) → s.1 ≤ l.length + 1 ∧ (l.length + 1 = s.1 → s.2 ≤ i)
theorem ciK_some {bs : List Bd} (hl : ∀ b ∈ bs, b.gone = false) {N i k : Nat} (hi : i < bs.length) (h : ciK bs N i = some k) : 1 ≤ k ∧ k < N ∧ (∃ l u, Neg bs (bd bs i).f.toNat (i :: l) u ∧ (∀ x ∈ l, i < x) ∧ l.length = k) ∧ ∀ l u, 1 ≤ l.length → Neg bs (bd bs i).f.toNat (i :: l) u → (∀ x ∈ l, i < x) → k ≤ l.length := by
  unfold ciK at h
  obtain ⟨h1, as, bs', h2, h3⟩ := List.find?_eq_some_iff_append.1 h
  have hm : k ∈ List.range' 1 (N - 1) := by rw [h2]; simp
  obtain ⟨m1, m2⟩ := List.mem_range'_1.1 hm
  have r := rowG_ok hl (i + 1) (bd bs i).f.toNat k
  simp only [Bool.and_eq_true, decide_eq_true_eq] at h1
  obtain ⟨l, a, b, c⟩ := r.some _ h1.1
  refine ⟨m1, by omega, ⟨l, _, ⟨Pth.cons ⟨hi, hl _ (bd_mem hi)⟩ a, h1.2⟩, fun x hx => by have := c x hx; omega, b⟩, fun l' u hl1 hn hgt => ?_⟩
  rcases Nat.lt_or_ge l'.length k with hlt | hge
  · exfalso
    have hml : l'.length ∈ as := by
      have hpw : (List.range' 1 (N - 1)).Pairwise (· < ·) := List.pairwise_lt_range'
      have hmem : l'.length ∈ List.range' 1 (N - 1) := List.mem_range'_1.2 ⟨hl1, by omega⟩
      rw [h2] at hpw hmem
      rcases List.mem_append.1 hmem with h | h
      · exact h
      · rcases List.mem_cons.1 h with h | h
        · omega
        · have := List.rel_of_pairwise_cons (List.pairwise_append.1 hpw).2.1 h
          omega
    have h4 := h3 _ hml
    have r' := rowG_ok hl (i + 1) (bd bs i).f.toNat l'.length
    obtain ⟨hn1, hn2⟩ := hn
    obtain ⟨_, _, hp⟩ := hn1.head
    obtain ⟨e1, e2⟩ := r'.le _ _ _ hp rfl (fun x hx => hgt x hx)
    simp [e1] at h4
    omega
  · exact hge
theorem ciK_none {bs : List Bd} (hl : ∀ b ∈ bs, b.gone = false) {N i : Nat} (h : ciK bs N i = none) (l : List Nat) (u : Int) (hl1 : 1 ≤ l.length) (hn : Neg bs (bd bs i).f.toNat (i :: l) u) (hgt : ∀ x ∈ l, i < x) : N ≤ l.length := by
  rcases Nat.lt_or_ge l.length N with hlt | hge
  · exfalso
    unfold ciK at h
    rw [List.find?_eq_none] at h
    have h4 := h l.length (List.mem_range'_1.2 ⟨hl1, by omega⟩)
    have r' := rowG_ok hl (i + 1) (bd bs i).f.toNat l.length
    obtain ⟨hn1, hn2⟩ := hn
    obtain ⟨_, _, hp⟩ := hn1.head
    obtain ⟨e1, e2⟩ := r'.le _ _ _ hp rfl (fun x hx => hgt x hx)
    simp [e1] at h4
    omega
  · exact hge
theorem neg_two {bs : List Bd} (hne : ∀ b ∈ bs, b.f.toNat ≠ b.t.toNat) {i : Nat} (hi : i < bs.length) {l : List Nat} {u : Int} (h : Neg bs (bd bs i).f.toNat (i :: l) u) : 1 ≤ l.length := by
  cases l with
  | nil =>
    obtain ⟨_, _, hp⟩ := h.1.head
    exact absurd hp.nil_inv.1.symm (hne _ (bd_mem hi))
  | cons x l => simp
theorem ciS_ok {bs : List Bd} (hl : ∀ b ∈ bs, b.gone = false) (hne : ∀ b ∈ bs, b.f.toNat ≠ b.t.toNat) {N j : Nat} (hj : j < bs.length) {s : Nat × Nat} (h : CIv bs N (j + 1) s) : CIv bs N j (ciS bs N s j) := by
  unfold ciS
  rcases hk : ciK bs N j with _ | k
  · dsimp only
    have h0 := ciK_none hl hk
    refine ⟨fun e => ?_, fun e => ?_⟩
    · obtain ⟨a, b⟩ := h.nil e
      refine ⟨a, fun i l u hi hn hgt => ?_⟩
      by_cases e2 : i = j
      · subst e2
        exact h0 l u (neg_two hne hj hn) hn hgt
      · exact b i l u (by omega) hn hgt
    · obtain ⟨a, b, c, d, f⟩ := h.cons e
      refine ⟨a, b, by omega, d, fun i l u hi hn hgt => ?_⟩
      by_cases e2 : i = j
      · subst e2
        have := h0 l u (neg_two hne hj hn) hn hgt
        omega
      · exact f i l u (by omega) hn hgt
  · obtain ⟨k1, k2, ⟨l0, u0, n0, g0, len0⟩, k4⟩ := ciK_some hl hj hk
    dsimp only
    by_cases hc : s.1 = 0 ∨ k + 1 ≤ s.1
    · rw [if_pos hc]
      refine ⟨fun e => by simp at e, fun _ => ⟨by dsimp only; omega, by dsimp only; omega, Nat.le_refl _, ⟨l0, u0, n0, g0, by dsimp only; omega⟩, fun i l u hi hn hgt => ?_⟩⟩
      dsimp only
      by_cases e2 : i = j
      · subst e2
        have := k4 l u (neg_two hne hj hn) hn hgt
        omega
      · have h5 : k + 1 ≤ l.length + 1 := by
          rcases hc with hc | hc
          · have := (h.nil hc).2 i l u (by omega) hn hgt
            omega
          · have := ((h.cons (by omega)).2.2.2.2 i l u (by omega) hn hgt).1
            omega
        exact ⟨h5, fun _ => hi⟩
    · rw [if_neg hc]
      obtain ⟨a, b, c, d, f⟩ := h.cons (by omega)
      refine ⟨fun e => by omega, fun _ => ⟨a, b, by omega, d, fun i l u hi hn hgt => ?_⟩⟩
      by_cases e2 : i = j
      · subst e2
        have := k4 l u (neg_two hne hj hn) hn hgt
        omega
      · exact f i l u (by omega) hn hgt
theorem ci_start {bs : List Bd} {N : Nat} : CIv bs N bs.length (0, 0) := by
  refine ⟨fun _ => ⟨rfl, fun i l u hi hn _ => ?_⟩, fun h => absurd rfl h⟩
  have := hn.1.head.2.1.1
  omega

/-- The reference's circle is the program's. -/
theorem circ_ref {bs : List Bd} {N : Nat} (hok : Ok N bs) (hl : ∀ b ∈ bs, b.gone = false) (hne : ∀ b ∈ bs, b.f.toNat ≠ b.t.toNat) (hneg : ¬ NoNeg bs) {s : Nat × Nat} (h : CIv bs N 0 s) :
    2 ≤ s.1 ∧ s.1 ≤ N ∧ s.2 < bs.length ∧ circF bs N = s.2 :: folF bs (s.2 + 1) (rowG bs (s.2 + 1) (bd bs s.2).f.toNat) (s.1 - 1) (bd bs s.2).t.toNat (-1 - (bd bs s.2).m) := by
  obtain ⟨⟨p, u, hp, hn⟩, hmin, hnd, hnn⟩ := circF_ok hok hneg
  have hlex := circK_min hok N (Nat.le_refl _)
  have hlex : ∀ p l u, p < N → Neg bs p l u → l.length = (circF bs N).length → lexLe (circF bs N) l := hlex.lex hnn
  have hlenN := once_len hok hn.1 hnd
  obtain ⟨i, l', t1, t2, t3, t4, t5⟩ := turned hn hnd hnn
  have hs0 : s.1 ≠ 0 := fun e => by
    have := (h.nil e).2 i l' u (Nat.zero_le _) t1 t2
    omega
  obtain ⟨a, b, _, ⟨l1, u1, n1, g1, len1⟩, f⟩ := h.cons hs0
  have hi1 := n1.1.head.2.1.1
  have hL : s.1 = (circF bs N).length := by
    have h1 := (f i l' u (Nat.zero_le _) t1 t2).1
    have h2 := hmin _ _ _ n1
    simp only [List.length_cons] at h2
    omega
  obtain ⟨first, hfirst⟩ : ∃ first, s.2 = first := ⟨_, rfl⟩
  rw [hfirst] at n1 g1 hi1 f ⊢
  obtain ⟨len, hlen⟩ : ∃ len, s.1 = len := ⟨_, rfl⟩
  rw [hlen] at a b len1 f hL ⊢
  refine ⟨a, b, hi1, ?_⟩
  have hps : PS bs (first + 1) (len - 1) (bd bs first).t.toNat (bd bs first).f.toNat (-1 - (bd bs first).m) l1 := by
    obtain ⟨_, _, hp1⟩ := n1.1.head
    exact ⟨⟨_, hp1, by have := n1.2; omega⟩, by omega, fun x hx => g1 x hx⟩
  have hpt := hok.pts n1.1.head.2.1
  have hfp := folF_fp hok hl (len - 1) (bd bs first).t.toNat hpt.2.1 (-1 - (bd bs first).m) ⟨l1, hps⟩
  obtain ⟨rest, hrest⟩ : ∃ rest, folF bs (first + 1) (rowG bs (first + 1) (bd bs first).f.toNat) (len - 1) (bd bs first).t.toNat (-1 - (bd bs first).m) = rest := ⟨_, rfl⟩
  rw [hrest] at hfp ⊢
  obtain ⟨⟨s2, hp2, hs2⟩, hlen2, hfr2⟩ := hfp.is
  have hneg2 : Neg bs (bd bs first).f.toNat (first :: rest) ((bd bs first).m + s2) := ⟨Pth.cons n1.1.head.2.1 hp2, by omega⟩
  have hle1 : lexLe (circF bs N) (first :: rest) := hlex _ _ _ hpt.1 hneg2 (by simp [hlen2]; omega)
  refine lexLe_anti (by simp [hlen2]; omega) hle1 ?_
  -- The other way round: any circle of this length is no earlier one.
  obtain ⟨c, cs, hc⟩ : ∃ c cs, circF bs N = c :: cs := by
    cases hcf : circF bs N with
    | nil => exact absurd hcf hnn
    | cons c cs => exact ⟨c, cs, rfl⟩
  rw [hc] at hn hnd hL t3 t4 t5 hle1 ⊢
  simp only [List.length_cons] at hL t3
  simp only [lexLe] at hle1 ⊢
  have hci : i ≤ c := t4 c (by simp)
  have hfi : first ≤ i := (f i l' u (Nat.zero_le _) t1 t2).2 (by omega)
  by_cases e : first < c
  · exact .inl e
  · have hec : first = c := by
      rcases hle1 with h | ⟨h, _⟩ <;> omega
    subst hec
    refine .inr ⟨rfl, hfp.least cs ?_⟩
    have hid : i = first := by omega
    subst hid
    have hnd' : (i :: cs).Nodup := nodup_of_map hnd
    obtain ⟨hx, hy, hp3⟩ := hn.1.head
    refine ⟨⟨_, by rw [hx]; exact hp3, by have := hn.2; omega⟩, by omega, fun x hx => ?_⟩
    have h1 := t4 x (by simp [hx])
    have h2 : x ≠ i := fun e => (List.nodup_cons.1 hnd').1 (e ▸ hx)
    omega

end Go.Proofs.Yteiaofgkmgllcaa.Ln
