/-
  Classes of points, plainly: each point is in just one; the map from points to classes.
-/
import Derived.Maps.OwnSet
import Derived.Maps.OwnOps
import Derived.Test.YteiaofgkmgllcaaRigM
import Derived.Test.YteiaofgkmgllcaaPots
set_option linter.unusedVariables false
set_option linter.unusedSimpArgs false
namespace Go.Proofs.Yteiaofgkmgllcaa
open Go.RowKit Go.Shelf Go.Maps

namespace Ln
theorem meet_iff {bs : List Bd} {n a b : Nat} : meet bs n a b = true ↔ gt (distF bs n a) b ≠ NONE ∧ gt (distF bs n b) a ≠ NONE ∧ gt (distF bs n a) b = -(gt (distF bs n b) a) := by
  unfold meet meetsF lowF highF
  by_cases h1 : gt (distF bs n b) a = NONE
  · rw [if_pos h1]
    simp [h1]
  · rw [if_neg h1]
    by_cases h2 : gt (distF bs n a) b = NONE
    · rw [if_pos h2]
      simp [h2]
    · rw [if_neg h2]
      simp only [Bool.and_self, Bool.true_and, decide_eq_true_eq]
      constructor
      · intro h; exact ⟨h2, h1, by omega⟩
      · rintro ⟨_, _, h⟩; omega
theorem meet_id {bs : List Bd} {n k : Nat} (hok : Ok n bs) (hN : NoNeg bs) (hk : k < n) : meet bs n k k = true := by
  have ht := hok.top
  have h := (dist_ok hok hN hk).self hN (by omega)
  unfold meet
  rw [h]
  decide
theorem meet_symm {bs : List Bd} {n a b : Nat} (h : meet bs n a b = true) : meet bs n b a = true := by
  obtain ⟨h1, h2, h3⟩ := meet_iff.1 h
  exact meet_iff.2 ⟨h2, h1, by omega⟩
theorem meet_trans {bs : List Bd} {n a b c : Nat} (hok : Ok n bs) (hN : NoNeg bs) (ha : a < n) (hb : b < n) (hc : c < n) (h : meet bs n a b = true) (k : meet bs n b c = true) : meet bs n a c = true := by
  have ht := hok.top
  obtain ⟨h1, h2, h3⟩ := meet_iff.1 h
  obtain ⟨k1, k2, k3⟩ := meet_iff.1 k
  have da := dist_ok hok hN ha
  have db := dist_ok hok hN hb
  have dc := dist_ok hok hN hc
  obtain ⟨e1, e2⟩ := da.tri db (v := c) (by omega) (by omega) h1 k1
  obtain ⟨f1, f2⟩ := dc.tri db (v := a) (by omega) (by omega) k2 h2
  obtain ⟨_, g2⟩ := da.tri dc (v := a) (by omega) (by omega) e1 f1
  have hs := da.self hN (by omega)
  exact meet_iff.2 ⟨e1, f1, by omega⟩

/-- The first of its class. -/
def rp (bs : List Bd) (n x : Nat) : Bool := !(List.range x).any (fun y => meet bs n y x)
theorem rp_iff {bs : List Bd} {n x : Nat} : rp bs n x = true ↔ ∀ y, y < x → meet bs n y x = false := by
  simp [rp]
theorem rp_of {bs : List Bd} {n : Nat} (hok : Ok n bs) (hN : NoNeg bs) (x : Nat) (hx : x < n) : ∃ r, r ≤ x ∧ rp bs n r = true ∧ meet bs n r x = true := by
  by_cases h : ∃ y, y < x ∧ meet bs n y x = true
  · obtain ⟨y, hy, hm⟩ := h
    obtain ⟨r, h1, h2, h3⟩ := rp_of hok hN y (by omega)
    exact ⟨r, by omega, h2, meet_trans hok hN (by omega) (by omega) hx h3 hm⟩
  · refine ⟨x, Nat.le_refl _, rp_iff.2 fun y hy => ?_, meet_id hok hN hx⟩
    rcases hm : meet bs n y x with _ | _
    · rfl
    · exact absurd ⟨y, hy, hm⟩ h
termination_by x
def reps (bs : List Bd) (n k : Nat) : List Nat := (List.range k).filter (rp bs n)
theorem rgK_is {bs : List Bd} {n : Nat} (hok : Ok n bs) (hN : NoNeg bs) (k : Nat) (hk : k ≤ n) :
    (rgK bs n k).1 = (reps bs n k).map (cls bs n) ∧ ∀ x, x < n → (rgK bs n k).2 x = (List.range k).any (fun a => decide (a < x) && meet bs n a x) := by
  induction k with
  | zero => exact ⟨rfl, fun x hx => by simp [rgK]⟩
  | succ k ih =>
    obtain ⟨h1, h2⟩ := ih (by omega)
    have hP := h2 k (by omega)
    have hrp : rp bs n k = !((rgK bs n k).2 k) := by
      rw [hP, rp]
      congr 1
      rw [Bool.eq_iff_iff]
      simp only [List.any_eq_true, List.mem_range, Bool.and_eq_true, decide_eq_true_eq]
      exact ⟨fun ⟨y, a, b⟩ => ⟨y, a, a, b⟩, fun ⟨y, a, _, b⟩ => ⟨y, a, b⟩⟩
    rcases hq : (rgK bs n k).2 k with _ | _
    · rw [rgK_new hq]
      rw [hq] at hrp
      refine ⟨?_, fun x hx => ?_⟩
      · dsimp only
        rw [h1, reps, reps, List.range_succ, List.filter_append, List.map_append]
        simp [hrp]
      · dsimp only
        rw [plc, h2 x hx, List.range_succ, List.any_append]
        simp [hx]
    · rw [rgK_skip hq]
      rw [hq] at hrp hP
      refine ⟨?_, fun x hx => ?_⟩
      · rw [h1, reps, reps, List.range_succ, List.filter_append, List.map_append]
        simp [hrp]
      · rw [h2 x hx, List.range_succ, List.any_append]
        rcases hm : decide (k < x) && meet bs n k x with _ | _
        · simp only [List.any_cons, List.any_nil, hm, Bool.or_false]
        · simp only [List.any_cons, List.any_nil, hm, Bool.or_false, Bool.or_true]
          simp only [Bool.and_eq_true, decide_eq_true_eq] at hm
          have hP' := hP.symm
          simp only [List.any_eq_true, List.mem_range, Bool.and_eq_true, decide_eq_true_eq] at hP' ⊢
          obtain ⟨a, a1, a2, a3⟩ := hP'
          exact ⟨a, a1, by omega, meet_trans hok hN (by omega) (by omega) hx a3 hm.2⟩
theorem cls_mem {bs : List Bd} {n a x : Nat} (ha : a < n) : x ∈ cls bs n a ↔ x = a ∨ (a < x ∧ x < n ∧ meet bs n a x = true) := by
  unfold cls mbr
  simp only [List.mem_cons, List.mem_filter, List.mem_range, Bool.and_eq_true, decide_eq_true_eq]
  constructor
  · rintro (h | ⟨h1, h2, h3⟩)
    · exact .inl h
    · exact .inr ⟨h2, h1, h3⟩
  · rintro (h | ⟨h1, h2, h3⟩)
    · exact .inl h
    · exact .inr ⟨h2, h1, h3⟩
theorem cls_pair (bs : List Bd) (n a : Nat) : (cls bs n a).Pairwise (· < ·) := by
  unfold cls mbr
  rw [List.pairwise_cons]
  refine ⟨fun x hx => ?_, List.pairwise_lt_range.filter _⟩
  simp only [List.mem_filter, Bool.and_eq_true, decide_eq_true_eq] at hx
  exact hx.2.1
/-- What the classes are: rising, their firsts rising, each point in one, and the same one exactly if the difference is fixed. -/
structure Classes (bs : List Bd) (n : Nat) (L : List (List Nat)) (ix : Nat → Nat) : Prop where
  len : L.length ≤ n
  ne : ∀ i (h : i < L.length), 0 < L[i].length
  rise : ∀ i (h : i < L.length), L[i].Pairwise (· < ·)
  firsts : ∀ i j (hi : i < L.length) (hj : j < L.length) (hl : 0 < L[i].length) (hm : 0 < L[j].length), i < j → L[i][0] < L[j][0]
  below : ∀ i (h : i < L.length), ∀ x ∈ L[i], x < n
  idx : ∀ i (h : i < L.length), ∀ x ∈ L[i], ix x = i
  all : ∀ x, x < n → ∃ i, ∃ h : i < L.length, x ∈ L[i]
  same : ∀ x y, x < n → y < n → (meet bs n x y = true ↔ ix x = ix y)
theorem classes_of {bs : List Bd} {n : Nat} (hok : Ok n bs) (hN : NoNeg bs) : ∃ ix, Classes bs n (rgK bs n n).1 ix := by
  obtain ⟨h1, _⟩ := rgK_is hok hN n (Nat.le_refl _)
  rw [h1]
  have hR : (reps bs n n).Pairwise (· < ·) := List.pairwise_lt_range.filter _
  have hmem : ∀ r, r ∈ reps bs n n ↔ r < n ∧ rp bs n r = true := fun r => by simp [reps, List.mem_filter]
  obtain ⟨R, hRR⟩ : ∃ R, reps bs n n = R := ⟨_, rfl⟩
  rw [hRR] at hR hmem ⊢
  have hlen : R.length ≤ n := by
    rw [← hRR]
    have := List.length_filter_le (rp bs n) (List.range n)
    simpa [reps] using this
  have hin : ∀ i (h : i < R.length), R[i] < n ∧ rp bs n R[i] = true := fun i h => (hmem _).1 (List.getElem_mem h)
  have hlt : ∀ i j (hi : i < R.length) (hj : j < R.length), i < j → R[i] < R[j] := fun i j hi hj h => List.pairwise_iff_getElem.1 hR i j hi hj h
  -- a point that meets two firsts
  have huniq : ∀ i j (hi : i < R.length) (hj : j < R.length) x y, x < n → y < n → meet bs n R[i] x = true → meet bs n R[j] y = true → meet bs n x y = true → i = j := fun i j hi hj x y hx hy h k m => by
    have hij : meet bs n R[i] R[j] = true := meet_trans hok hN (hin i hi).1 hy (hin j hj).1 (meet_trans hok hN (hin i hi).1 hx hy h m) (meet_symm k)
    rcases Nat.lt_trichotomy i j with e | e | e
    · have := rp_iff.1 (hin j hj).2 R[i] (hlt i j hi hj e)
      rw [hij] at this
      cases this
    · exact e
    · have := rp_iff.1 (hin i hi).2 R[j] (hlt j i hj hi e)
      rw [meet_symm hij] at this
      cases this
  have hmeet : ∀ i (h : i < R.length) x, x ∈ cls bs n R[i] → x < n ∧ meet bs n R[i] x = true := fun i h x hx => by
    rcases (cls_mem (hin i h).1).1 hx with rfl | ⟨_, a, b⟩
    · exact ⟨(hin i h).1, meet_id hok hN (hin i h).1⟩
    · exact ⟨a, b⟩
  have hall : ∀ x, x < n → ∃ i, ∃ h : i < R.length, x ∈ cls bs n R[i] ∧ meet bs n R[i] x = true := fun x hx => by
    obtain ⟨r, a, b, c⟩ := rp_of hok hN x hx
    obtain ⟨i, hi, e⟩ := List.getElem_of_mem ((hmem r).2 ⟨by omega, b⟩)
    subst e
    refine ⟨i, hi, (cls_mem (hin i hi).1).2 ?_, c⟩
    rcases Nat.lt_or_ge R[i] x with h | h
    · exact .inr ⟨h, hx, c⟩
    · exact .inl (by omega)
  have hix : ∀ x, ∃ i, x < n → ∃ h : i < R.length, x ∈ cls bs n R[i] ∧ meet bs n R[i] x = true := fun x => by
    by_cases hx : x < n
    · obtain ⟨i, h⟩ := hall x hx
      exact ⟨i, fun _ => h⟩
    · exact ⟨0, fun h => absurd h hx⟩
  obtain ⟨ix, hix⟩ := Classical.axiomOfChoice hix
  refine ⟨ix, ?_, ?_, ?_, ?_, ?_, ?_, ?_, ?_⟩
  · simpa using hlen
  · intro i h
    simp [cls]
  · intro i h
    rw [List.getElem_map]
    exact cls_pair _ _ _
  · intro i j hi hj hl hm hij
    simp only [List.getElem_map, cls, List.getElem_cons_zero]
    exact hlt i j (by simpa using hi) (by simpa using hj) hij
  · intro i h x hx
    rw [List.getElem_map] at hx
    exact (hmeet i (by simpa using h) x hx).1
  · intro i h x hx
    rw [List.getElem_map] at hx
    have h' : i < R.length := by simpa using h
    obtain ⟨a, b⟩ := hmeet i h' x hx
    obtain ⟨hj, _, c⟩ := hix x a
    exact huniq _ _ hj h' x x a a c b (meet_id hok hN a)
  · intro x hx
    obtain ⟨i, h, a, _⟩ := hall x hx
    refine ⟨i, by simpa using h, ?_⟩
    rw [List.getElem_map]
    exact a
  · intro x y hx hy
    obtain ⟨hi, _, c⟩ := hix x hx
    obtain ⟨hj, _, d⟩ := hix y hy
    constructor
    · intro m
      exact huniq _ _ hi hj x y hx hy c d m
    · intro e
      have hm : meet bs n R[ix x] y = true := by
        have : R[ix x] = R[ix y] := by simp only [e]
        rw [this]
        exact d
      exact meet_trans hok hN hx (hin _ hi).1 hy (meet_symm c) hm

/-- The keys that have come when i classes, and k points of the next one, are entered. -/
def fxK (L : List (List Nat)) (i k : Nat) : List Nat := (L.take i).flatten ++ (L.getD i []).take k
theorem fxK_zero (L : List (List Nat)) : fxK L 0 0 = [] := by simp [fxK]
theorem fxK_step {L : List (List Nat)} {i k : Nat} (hi : i < L.length) (hk : k < L[i].length) : fxK L i (k + 1) = fxK L i k ++ [L[i][k]] := by
  unfold fxK
  rw [List.getD_eq_getElem?_getD, List.getElem?_eq_getElem hi, Option.getD_some, List.take_succ_eq_append_getElem hk, List.append_assoc]
theorem fxK_next {L : List (List Nat)} {i : Nat} (hi : i < L.length) : fxK L i L[i].length = fxK L (i + 1) 0 := by
  unfold fxK
  rw [List.getD_eq_getElem?_getD, List.getElem?_eq_getElem hi, Option.getD_some, List.take_length, List.take_zero, List.append_nil, List.take_succ_eq_append_getElem hi, List.flatten_append]
  simp
theorem fxK_end (L : List (List Nat)) : fxK L L.length 0 = L.flatten := by simp [fxK]
theorem fxK_mem {L : List (List Nat)} {i k x : Nat} (h : x ∈ fxK L i k) : ∃ j, ∃ hj : j < L.length, x ∈ L[j] ∧ (j < i ∨ (j = i ∧ ∃ m, ∃ hm : m < L[j].length, m < k ∧ L[j][m] = x)) := by
  unfold fxK at h
  rcases List.mem_append.1 h with h | h
  · obtain ⟨l, hl, hx⟩ := List.mem_flatten.1 h
    obtain ⟨j, hj, e⟩ := List.getElem_of_mem hl
    subst e
    rw [List.getElem_take] at hx
    have hj' : j < i ∧ j < L.length := by rw [List.length_take] at hj; omega
    exact ⟨j, hj'.2, hx, .inl hj'.1⟩
  · rw [List.getD_eq_getElem?_getD] at h
    by_cases hi : i < L.length
    · rw [List.getElem?_eq_getElem hi, Option.getD_some] at h
      obtain ⟨m, hm, e⟩ := List.getElem_of_mem h
      rw [List.getElem_take] at e
      have hm' : m < k ∧ m < L[i].length := by rw [List.length_take] at hm; omega
      exact ⟨i, hi, e ▸ List.getElem_mem hm'.2, .inr ⟨rfl, m, hm'.2, hm'.1, e⟩⟩
    · rw [List.getElem?_eq_none (by omega)] at h
      simp at h
theorem fxK_new {bs : List Bd} {n : Nat} {L : List (List Nat)} {ix : Nat → Nat} (h : Classes bs n L ix) {i k : Nat} (hi : i < L.length) (hk : k < L[i].length) : L[i][k] ∉ fxK L i k := by
  intro hm
  obtain ⟨j, hj, hx, hc⟩ := fxK_mem hm
  have h1 := h.idx i hi _ (List.getElem_mem hk)
  have h2 := h.idx j hj _ hx
  rcases hc with hc | ⟨rfl, m, hm, hlt, e⟩
  · omega
  · have := List.pairwise_iff_getElem.1 (h.rise j hj) m k hm hk hlt
    omega

def fxD (ix : Nat → Nat) (ks : List Nat) : DataW Unit := ks.foldl (fun D (p : Nat) => D.put (.int .i64 (p : Int)) (.lit (.int .i64 (ix p : Int)))) (.map [])
theorem fxD_snoc (ix : Nat → Nat) (ks : List Nat) (p : Nat) : fxD ix (ks ++ [p]) = (fxD ix ks).put (.int .i64 (p : Int)) (.lit (.int .i64 (ix p : Int))) := by simp [fxD]
theorem key_ne {a b : Nat} (h : a ≠ b) : (Lit.int .i64 (a : Int)) ≠ .int .i64 (b : Int) := fun e => h (by injection e; omega)
theorem fx_key (p : Nat) : WideAt.IsKeyLit (.int .i64 (p : Int)) := trivial
theorem fxD_spec (ix : Nat → Nat) (ks : List Nat) : Tidy (fxD ix ks) ∧ ∀ x : Nat, Maps.has (fxD ix ks) (.int .i64 (x : Int)) = decide (x ∈ ks) ∧ (x ∈ ks → ∀ z, (fxD ix ks).atKey (.int .i64 (x : Int)) z = .lit (.int .i64 (ix x : Int))) := by
  induction hl : ks.length generalizing ks with
  | zero =>
    obtain rfl := List.eq_nil_of_length_eq_zero hl
    exact ⟨tidy_empty, fun x => ⟨by simp [fxD, has], fun h => by simp at h⟩⟩
  | succ m ih =>
    obtain ⟨ks', p, rfl⟩ : ∃ ks' p, ks = ks' ++ [p] := ⟨ks.dropLast, ks.getLast (by intro e; simp [e] at hl), (List.dropLast_concat_getLast _).symm⟩
    obtain ⟨t, h⟩ := ih ks' (by simpa using hl)
    rw [fxD_snoc]
    refine ⟨t.put (fx_key p) _, fun x => ?_⟩
    by_cases e : x = p
    · subst e
      exact ⟨by rw [has_put_same t.isMap (fx_key x)]; simp, fun _ z => atKey_put_same t.isMap (fx_key x) _ _⟩
    · rw [has_put_other (key_ne e), (h x).1]
      refine ⟨by simp [e], fun hx z => ?_⟩
      rw [atKey_put_other (key_ne e)]
      exact (h x).2 (by simpa [e] using hx) z
theorem fxD_size {ix : Nat → Nat} {ks : List Nat} {p : Nat} (h : p ∉ ks) : Maps.size (fxD ix (ks ++ [p])) = Maps.size (fxD ix ks) + 1 := by
  obtain ⟨t, hs⟩ := fxD_spec ix ks
  rw [fxD_snoc, size_put t, (hs p).1, if_neg (by simpa using h)]
theorem fxD_zero (ix : Nat → Nat) : Maps.size (fxD ix []) = 0 := rfl
/-- The points are the keys, each once. -/
theorem fx_flat {bs : List Bd} {n : Nat} {L : List (List Nat)} {ix : Nat → Nat} (h : Classes bs n L ix) : L.flatten.length = n := by
  have hnd : L.flatten.Nodup := by
    unfold List.Nodup
    rw [List.pairwise_flatten]
    refine ⟨fun l hl => ?_, ?_⟩
    · obtain ⟨i, hi, e⟩ := List.getElem_of_mem hl
      subst e
      exact (h.rise i hi).imp (fun h => by omega)
    · rw [List.pairwise_iff_getElem]
      intro i j hi hj hij x hx y hy e
      subst e
      have h1 := h.idx i hi x hx
      have h2 := h.idx j hj x hy
      omega
  have hp : L.flatten.Perm (List.range n) := by
    rw [List.perm_iff_count]
    intro x
    rw [hnd.count, List.nodup_range.count]
    have : x ∈ L.flatten ↔ x ∈ List.range n := by
      rw [List.mem_range, List.mem_flatten]
      constructor
      · rintro ⟨l, hl, hx⟩
        obtain ⟨i, hi, e⟩ := List.getElem_of_mem hl
        subst e
        exact h.below i hi x hx
      · intro hx
        obtain ⟨i, hi, hx⟩ := h.all x hx
        exact ⟨_, List.getElem_mem hi, hx⟩
    simp only [this]
  simpa using hp.length_eq
end Ln

end Go.Proofs.Yteiaofgkmgllcaa
