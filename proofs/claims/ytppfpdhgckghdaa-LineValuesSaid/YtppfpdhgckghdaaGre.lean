/-
  Greatest and Least, plainly; what keeps a system lies between them.
-/
import Derived.Test.YtppfpdhgckghdaaPots
set_option linter.unusedVariables false
set_option linter.unusedSimpArgs false
namespace Go.Proofs.Ytppfpdhgckghdaa.Ln

/-- A bound turned round. -/
def rev (b : Bd) : Bd := ⟨b.t, b.f, b.m, b.r, b.gone⟩
def revs (bs : List Bd) : List Bd := bs.map rev
theorem rev_rev (b : Bd) : rev (rev b) = b := rfl
theorem revs_revs (bs : List Bd) : revs (revs bs) = bs := by
  unfold revs
  rw [List.map_map, show rev ∘ rev = id from funext rev_rev, List.map_id]
theorem revs_length (bs : List Bd) : (revs bs).length = bs.length := by simp [revs]
theorem bd_rev (bs : List Bd) (i : Nat) : bd (revs bs) i = rev (bd bs i) := by
  unfold bd revs
  rw [List.getD_eq_getElem?_getD, List.getD_eq_getElem?_getD, List.getElem?_map]
  rcases bs[i]? with _ | b <;> rfl
theorem lv1_rev {bs : List Bd} {i : Nat} : Lv1 (revs bs) i ↔ Lv1 bs i := by
  unfold Lv1
  rw [revs_length, bd_rev]
  rfl
theorem Pth.rev {bs : List Bd} {p q : Nat} {l : List Nat} {s : Int} (h : Pth bs p l q s) : Pth (revs bs) q l.reverse p s := by
  induction h with
  | nil p => exact .nil p
  | @cons i l q s hi _ ih =>
    rw [List.reverse_cons]
    have h1 := Pth.one (lv1_rev.2 hi)
    rw [bd_rev] at h1
    have h2 : Pth (revs bs) (bd bs i).t.toNat [i] (bd bs i).f.toNat (bd bs i).m := h1
    exact (ih.append h2).cast (by omega)
theorem noNeg_rev {bs : List Bd} (h : NoNeg bs) : NoNeg (revs bs) := fun p l s hp => by
  have := hp.rev
  rw [revs_revs] at this
  exact h _ _ _ this
theorem Ok.rev {N : Nat} {bs : List Bd} (h : Ok N bs) : Ok N (revs bs) := by
  refine ⟨h.pos, h.top, by rw [revs_length]; exact h.len, fun b hb => ?_⟩
  obtain ⟨c, hc, rfl⟩ := List.mem_map.1 hb
  have := h.each c hc
  exact ⟨this.2.1, this.1, this.2.2⟩
theorem valid_rev (n : Int) (b : Bd) : valid n (rev b) = valid n b := by
  rw [Bool.eq_iff_iff, valid_iff, valid_iff]
  show (0 ≤ b.t ∧ b.t < n) ∧ (0 ≤ b.f ∧ b.f < n) ∧ b.t ≠ b.f ∧ _ ↔ _
  exact ⟨fun ⟨a, c, d, e⟩ => ⟨c, a, Ne.symm d, e⟩, fun ⟨a, c, d, e⟩ => ⟨c, a, Ne.symm d, e⟩⟩
theorem check_rev (N : Int) (bs : List Bd) : check N (revs bs) = check N bs := by
  unfold check
  have : (revs bs).all (valid N) = bs.all (valid N) := by
    unfold revs
    rw [List.all_map]
    congr 1
    funext b
    exact valid_rev N b
  rw [revs_length, this]
theorem revs_live {bs : List Bd} (h : ∀ b ∈ bs, b.gone = false) : ∀ b ∈ revs bs, b.gone = false := fun b hb => by
  obtain ⟨c, hc, rfl⟩ := List.mem_map.1 hb
  exact h c hc
theorem cons_rev {N : Nat} {bs : List Bd} (hok : Ok N bs) : consF (revs bs) N = consF bs N := by
  rw [Bool.eq_iff_iff, cons_iff hok, cons_iff hok.rev]
  refine ⟨fun h => ?_, noNeg_rev⟩
  have := noNeg_rev h
  rwa [revs_revs] at this
theorem sound_rev (N : Int) (bs : List Bd) : soundF N (revs bs) [] = soundF N bs [] := by
  rw [sound_nil, sound_nil, check_rev]
  by_cases h : check N bs = 0
  · rw [if_pos h, if_pos h, cons_rev (ok_of_check h).1]
  · rw [if_neg h, if_neg h]
theorem dist_rev {N : Nat} {bs : List Bd} (hok : Ok N bs) (hN : NoNeg bs) {a b : Nat} (ha : a < N) (hb : b < N) : gt (distF (revs bs) N a) b = gt (distF bs N b) a := by
  have ht := hok.top
  have d1 := dist_ok hok hN hb
  have d2 := dist_ok hok.rev (noNeg_rev hN) ha
  have f1 : gt (distF bs N b) a ≠ NONE → gt (distF (revs bs) N a) b ≠ NONE ∧ gt (distF (revs bs) N a) b ≤ gt (distF bs N b) a := fun h => by
    obtain ⟨l, hl⟩ := d1.some a (by omega) h
    exact d2.le _ _ _ hl.rev
  have f2 : gt (distF (revs bs) N a) b ≠ NONE → gt (distF bs N b) a ≠ NONE ∧ gt (distF bs N b) a ≤ gt (distF (revs bs) N a) b := fun h => by
    obtain ⟨l, hl⟩ := d2.some b (by omega) h
    have := hl.rev
    rw [revs_revs] at this
    exact d1.le _ _ _ this
  by_cases e : gt (distF bs N b) a = NONE
  · by_cases e2 : gt (distF (revs bs) N a) b = NONE
    · rw [e, e2]
    · exact absurd e (f2 e2).1
  · have := f1 e
    have := f2 this.1
    omega

theorem take_at {D : List Int} {n k : Nat} (hk : k < n) : gt (D.take n) k = gt D k := by
  unfold gt
  rw [List.getD_eq_getElem?_getD, List.getD_eq_getElem?_getD, List.getElem?_take_of_lt hk]
theorem take_eq {D : List Int} {n : Nat} (h : n ≤ D.length) : D.take n = (List.range n).map (gt D) := by
  apply List.ext_getElem
  · simp; omega
  · intro i h1 h2
    simp only [List.length_take] at h1
    rw [List.getElem_take, List.getElem_map, List.getElem_range, gt_eq]
theorem none_mem {D : List Int} {n : Nat} (h : n ≤ D.length) : NONE ∈ D.take n ↔ ∃ k, k < n ∧ gt D k = NONE := by
  rw [take_eq h]
  simp only [List.mem_map, List.mem_range]

/-- Greatest. -/
def grF (N : Int) (bs : List Bd) : List Int × Int :=
  if soundF N bs [] = 0 then (if NONE ∈ (distF bs N.toNat 0).take N.toNat then ([], 5) else ((distF bs N.toNat 0).take N.toNat, 0)) else ([], soundF N bs [])
/-- Least. -/
def leF (N : Int) (bs : List Bd) : List Int × Int := ((grF N (revs bs)).1.map (fun x => -x), (grF N (revs bs)).2)

theorem pot_rev {bs : List Bd} {y : Nat → Int} (h : Pot bs y) : Pot (revs bs) (fun v => -(y v)) := fun i hi => by
  rw [bd_rev]
  have := h i (lv1_rev.1 hi)
  show -(y (bd bs i).f.toNat) ≤ -(y (bd bs i).t.toNat) + (bd bs i).m
  omega
theorem Pot.max {bs : List Bd} {y z : Nat → Int} (h : Pot bs y) (k : Pot bs z) : Pot bs (fun v => Max.max (y v) (z v)) := fun i hi => by
  have h1 := h i hi
  have h2 := k i hi
  show Max.max (y _) (z _) ≤ Max.max (y _) (z _) + _
  omega
theorem Pot.congr {N : Nat} {bs : List Bd} (hok : Ok N bs) {y z : Nat → Int} (h : Pot bs y) (he : ∀ v, v < N → z v = y v) : Pot bs z := fun i hi => by
  have := hok.pts hi
  rw [he _ this.1, he _ this.2.1]
  exact h i hi

/-- What Greatest returns keeps the system, and nothing that keeps it lies above. -/
structure GrOk (N : Int) (bs : List Bd) (x : List Int) : Prop where
  len : (x.length : Int) = N
  zero : gt x 0 = 0
  small : ∀ k, -400000000 ≤ gt x k ∧ gt x k ≤ 400000000
  pot : Pot bs (gt x)
  top : ∀ y, Pot bs y → y 0 = 0 → ∀ p : Nat, (p : Int) < N → y p ≤ gt x p

theorem grF_err {N : Int} {bs : List Bd} (h : (grF N bs).2 ≠ 0) : (grF N bs).1 = [] := by
  unfold grF at h ⊢
  split
  · split
    · rfl
    · rename_i h1 h2
      rw [if_pos h1, if_neg h2] at h
      exact absurd rfl h
  · rfl
theorem grF_ok {N : Int} {bs : List Bd} (h : (grF N bs).2 = 0) : GrOk N bs (grF N bs).1 := by
  unfold grF at h ⊢
  by_cases h1 : soundF N bs [] = 0
  · rw [if_pos h1] at h ⊢
    by_cases h2 : NONE ∈ (distF bs N.toNat 0).take N.toNat
    · rw [if_pos h2] at h
      cases h
    · rw [if_neg h2]
      obtain ⟨_, hc, hk⟩ := sound_zero h1
      obtain ⟨hok, hNt⟩ := ok_of_check hk
      have hN := (cons_iff hok).1 hc
      have htop := hok.top
      have hpos := hok.pos
      have hl := (distF_small hok 0).1
      have hd := dist_ok hok hN (a := 0) (by omega)
      have hs := dist_small hok hN (a := 0) (by omega)
      have hne : ∀ k, k < N.toNat → gt (distF bs N.toNat 0) k ≠ NONE := fun k hk e => h2 ((none_mem (by omega)).2 ⟨k, hk, e⟩)
      have hlen : ((distF bs N.toNat 0).take N.toNat).length = N.toNat := by rw [List.length_take]; omega
      refine ⟨by rw [hlen]; exact hNt, ?_, fun k => ?_, ?_, fun y hy hy0 p hp => ?_⟩
      · dsimp only
        rw [take_at (by omega)]
        exact hd.self hN (by omega)
      · dsimp only
        by_cases hk : k < N.toNat
        · rw [take_at hk]
          have := hs k
          have hk' := hne k hk
          rcases this with e | e
          · exact absurd e hk'
          · omega
        · have : gt ((distF bs N.toNat 0).take N.toNat) k = 0 := by
            unfold gt
            rw [List.getD_eq_getElem?_getD, List.getElem?_eq_none (by omega)]
            rfl
          rw [this]
          omega
      · refine Pot.congr hok (y := gt (distF bs N.toNat 0)) (fun i hi => ?_) (fun v hv => take_at hv)
        exact (hd.edge hok hi (hne _ (hok.pts hi).1)).2
      · dsimp only
        rw [take_at (by omega)]
        have := hd.pot (v := p) (by omega) (hne p (by omega)) hy
        omega
  · rw [if_neg h1] at h
    exact absurd h h1

theorem gt_neg (x : List Int) (k : Nat) : gt (x.map (fun x => -x)) k = -(gt x k) := by
  unfold gt
  rw [List.getD_eq_getElem?_getD, List.getD_eq_getElem?_getD, List.getElem?_map]
  rcases x[k]? with _ | v <;> rfl
/-- What Least returns keeps the system, and nothing that keeps it lies below. -/
structure LeOk (N : Int) (bs : List Bd) (x : List Int) : Prop where
  len : (x.length : Int) = N
  zero : gt x 0 = 0
  small : ∀ k, -400000000 ≤ gt x k ∧ gt x k ≤ 400000000
  pot : Pot bs (gt x)
  low : ∀ y, Pot bs y → y 0 = 0 → ∀ p : Nat, (p : Int) < N → gt x p ≤ y p
theorem leF_err {N : Int} {bs : List Bd} (h : (leF N bs).2 ≠ 0) : (leF N bs).1 = [] := by
  unfold leF at h ⊢
  dsimp only at h ⊢
  rw [grF_err h]
  rfl
theorem leF_ok {N : Int} {bs : List Bd} (h : (leF N bs).2 = 0) : LeOk N bs (leF N bs).1 := by
  unfold leF at h ⊢
  dsimp only at h ⊢
  have g := grF_ok h
  refine ⟨by rw [List.length_map]; exact g.len, by rw [gt_neg, g.zero]; rfl, fun k => ?_, ?_, fun y hy hy0 p hp => ?_⟩
  · rw [gt_neg]
    have := g.small k
    omega
  · have := pot_rev g.pot
    rw [revs_revs] at this
    intro i hi
    have := this i hi
    rw [gt_neg, gt_neg]
    exact this
  · rw [gt_neg]
    have : -(y p) ≤ gt (grF N (revs bs)).1 p := g.top _ (pot_rev hy) (show -(y 0) = 0 by omega) p hp
    omega

/-- What LineLattice asks, plainly. -/
structure LatOk (N : Int) (bs : List Bd) (y z : List Int) : Prop where
  less : keptF N bs ((List.range N.toNat).map (fun p => min (gt y p) (gt z p))) = (0, true, 0)
  more : keptF N bs ((List.range N.toNat).map (fun p => max (gt y p) (gt z p))) = (0, true, 0)
theorem gt_map (f : Nat → Int) {n k : Nat} (hk : k < n) : gt ((List.range n).map f) k = f k := by
  unfold gt
  rw [List.getD_eq_getElem?_getD, List.getElem?_map, List.getElem?_range hk]
  rfl
theorem kept_map {N : Int} {bs : List Bd} (hc : check N bs = 0) (hl : ∀ b ∈ bs, b.gone = false) (f : Nat → Int) (h0 : f 0 = 0) (hs : ∀ k : Nat, (k : Int) < N → -400000000 ≤ f k ∧ f k ≤ 400000000) (hp : Pot bs f) : keptF N bs ((List.range N.toNat).map f) = (0, true, 0) := by
  obtain ⟨hok, hNt⟩ := ok_of_check hc
  have hpos := hok.pos
  refine keptF_of hc hl (by simp; omega) (by rw [gt_map f (by omega)]; exact h0) (fun k => ?_) (Pot.congr hok hp fun v hv => gt_map f hv)
  by_cases hk : k < N.toNat
  · rw [gt_map f hk]
    exact hs k (by omega)
  · have : gt ((List.range N.toNat).map f) k = 0 := by
      unfold gt
      rw [List.getD_eq_getElem?_getD, List.getElem?_eq_none (by simp; omega)]
      rfl
    rw [this]
    omega
theorem lat_ok {N : Int} {bs : List Bd} (hl : ∀ b ∈ bs, b.gone = false) {y z : List Int} (h1 : (keptF N bs y).2.1 = true) (h2 : (keptF N bs z).2.1 = true) : LatOk N bs y z := by
  obtain ⟨hc, y1, y2, y3, y4, _⟩ := keptF_inv h1
  obtain ⟨_, z1, z2, z3, z4, _⟩ := keptF_inv h2
  refine ⟨kept_map hc hl _ (by rw [y2, z2]; rfl) (fun k hk => ?_) (Pot.min y4 z4), kept_map hc hl _ (by rw [y2, z2]; rfl) (fun k hk => ?_) (Pot.max y4 z4)⟩
  · have a := y3 k (by omega)
    have b := z3 k (by omega)
    omega
  · have a := y3 k (by omega)
    have b := z3 k (by omega)
    omega
theorem kept_gr {N : Int} {bs : List Bd} (hc : check N bs = 0) (hl : ∀ b ∈ bs, b.gone = false) {x : List Int} (h : GrOk N bs x) : keptF N bs x = (0, true, 0) := keptF_of hc hl h.len h.zero h.small h.pot
theorem kept_le {N : Int} {bs : List Bd} (hc : check N bs = 0) (hl : ∀ b ∈ bs, b.gone = false) {x : List Int} (h : LeOk N bs x) : keptF N bs x = (0, true, 0) := keptF_of hc hl h.len h.zero h.small h.pot

end Go.Proofs.Ytppfpdhgckghdaa.Ln
