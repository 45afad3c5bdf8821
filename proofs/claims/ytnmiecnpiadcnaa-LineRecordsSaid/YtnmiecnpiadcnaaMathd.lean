/-
  Plain functions, continued: values.
-/
import Derived.Test.YtnmiecnpiadcnaaMathc
set_option linter.unusedVariables false
set_option linter.unusedSimpArgs false
namespace Go.Proofs.Ytnmiecnpiadcnaa.Ln

def gvl (row : List Int) (k : Nat) : List Nat := (List.range k).filter (fun p => decide (gt row p ≠ NONE))
def opn (row : List Int) (k : Nat) : List Nat := (List.range k).filter (fun p => decide (gt row p = NONE))
def y1 (row : List Int) (k : Nat) : List Int := (List.range k).map (fun p => if gt row p = NONE then 0 else gt row p)
def valS (D : List Int) (s : List Int × List Nat) (p : Nat) : List Int × List Nat := (s.1.set p (lfzF (possF D s.1 p s.2).1 (possF D s.1 p s.2).2), s.2 ++ [p])
def valK (D : List Int) (s : List Int × List Nat) (l : List Nat) : List Int × List Nat := l.foldl (valS D) s
def valF (bs : List Bd) (N : Nat) : List Int := (valK (adF bs N) (y1 (distF bs N 0) N, gvl (distF bs N 0) N) (opn (distF bs N 0) N)).1

theorem gvl_some {row : List Int} {k : Nat} (h : gt row k ≠ NONE) : gvl row (k + 1) = gvl row k ++ [k] := by simp [gvl, List.range_succ, h]
theorem gvl_none {row : List Int} {k : Nat} (h : gt row k = NONE) : gvl row (k + 1) = gvl row k := by simp [gvl, List.range_succ, h]
theorem opn_some {row : List Int} {k : Nat} (h : gt row k ≠ NONE) : opn row (k + 1) = opn row k := by simp [opn, List.range_succ, h]
theorem opn_none {row : List Int} {k : Nat} (h : gt row k = NONE) : opn row (k + 1) = opn row k ++ [k] := by simp [opn, List.range_succ, h]
theorem y1_some {row : List Int} {k : Nat} (h : gt row k ≠ NONE) : y1 row (k + 1) = y1 row k ++ [gt row k] := by simp [y1, List.range_succ, h]
theorem y1_none {row : List Int} {k : Nat} (h : gt row k = NONE) : y1 row (k + 1) = y1 row k ++ [0] := by simp [y1, List.range_succ, h]
theorem y1_length (row : List Int) (k : Nat) : (y1 row k).length = k := by simp [y1]
theorem gvl_lt {row : List Int} {k g : Nat} (h : g ∈ gvl row k) : g < k := by
  simp [gvl] at h
  exact h.1
theorem opn_lt {row : List Int} {k g : Nat} (h : g ∈ opn row k) : g < k := by
  simp [opn] at h
  exact h.1
theorem gvl_length (row : List Int) (k : Nat) : (gvl row k).length ≤ k := by
  have := List.length_filter_le (fun p => decide (gt row p ≠ NONE)) (List.range k)
  simpa [gvl] using this
theorem opn_length (row : List Int) (k : Nat) : (opn row k).length ≤ k := by
  have := List.length_filter_le (fun p => decide (gt row p = NONE)) (List.range k)
  simpa [opn] using this
theorem valK_step (D : List Int) (s : List Int × List Nat) {l : List Nat} {k : Nat} (hk : k < l.length) : valK D s (l.take (k + 1)) = valS D (valK D s (l.take k)) l[k] := by
  rw [List.take_succ_eq_append_getElem hk, valK, List.foldl_append]
  rfl

def Cl (M : Int) (y : List Int) : Prop := ∀ k, -M ≤ gt y k ∧ gt y k ≤ M
def Tm (K : Int) (d : List Int) : Prop := ∀ k, gt d k = NONE ∨ (-K ≤ gt d k ∧ gt d k ≤ K)
theorem Cl.mono {M M' : Int} {y : List Int} (h : Cl M y) (hM : M ≤ M') : Cl M' y := fun k => by
  have := h k
  omega
theorem gt_far {d : List Int} {k : Nat} (h : d.length ≤ k) : gt d k = 0 := by simp [gt, h]
theorem Sm.tm {K : Int} {d : List Int} (h : Sm K d) (h0 : 0 ≤ K) : Tm K d := fun k => by
  by_cases hk : k < d.length
  · exact h.at_ hk
  · exact .inr (by rw [gt_far (by omega)]; omega)
theorem adF_tm {bs : List Bd} {N : Nat} (hok : Ok N bs) : Tm 100000000000000 (adF bs N) := fun k => by
  by_cases hk : k < N * 128
  · have h1 : k / 128 < N := by omega
    have h2 : k % 128 < 128 := Nat.mod_lt _ (by omega)
    have h3 : k = k / 128 * 128 + k % 128 := by omega
    rw [h3, adF_at hok h1 h2]
    exact (distF_small hok _).2.tm (by omega) _
  · exact .inr (by rw [gt_far (by rw [adF_length hok]; omega)]; omega)
theorem y1_cl {row : List Int} {K : Int} (h : Tm K row) (h0 : 0 ≤ K) (k : Nat) : Cl K (y1 row k) := fun j => by
  by_cases hj : j < k
  · rw [gt_eq (by rw [y1_length]; exact hj)]
    simp only [y1, List.getElem_map, List.getElem_range]
    split
    · omega
    · rename_i hne
      exact (h j).resolve_left hne
  · rw [gt_far (by rw [y1_length]; omega)]
    omega

theorem lowF_cl {M K v d : Int} (hv : -M ≤ v ∧ v ≤ M) (hd : d = NONE ∨ (-K ≤ d ∧ d ≤ K)) (h0 : 0 ≤ M + K) : -(M + K) ≤ (lowF v d).1 ∧ (lowF v d).1 ≤ M + K := by
  unfold lowF
  split
  · exact ⟨by omega, h0⟩
  · rename_i hne
    have := hd.resolve_left hne
    exact ⟨by show -(M + K) ≤ v - d; omega, by show v - d ≤ M + K; omega⟩
theorem highF_cl {M K v d : Int} (hv : -M ≤ v ∧ v ≤ M) (hd : d = NONE ∨ (-K ≤ d ∧ d ≤ K)) (h0 : 0 ≤ M + K) : -(M + K) ≤ (highF v d).1 ∧ (highF v d).1 ≤ M + K := by
  unfold highF
  split
  · exact ⟨by omega, h0⟩
  · rename_i hne
    have := hd.resolve_left hne
    exact ⟨by show -(M + K) ≤ v + d; omega, by show v + d ≤ M + K; omega⟩
theorem possF_cl {M K : Int} {D y : List Int} (hy : Cl M y) (hD : Tm K D) (h0 : 0 ≤ M + K) (p : Nat) (gs : List Nat) :
    (-(M + K) ≤ (possF D y p gs).1.1 ∧ (possF D y p gs).1.1 ≤ M + K) ∧ (-(M + K) ≤ (possF D y p gs).2.1 ∧ (possF D y p gs).2.1 ≤ M + K) := by
  unfold possF
  have : ∀ (s : (Int × Bool) × (Int × Bool)), ((-(M + K) ≤ s.1.1 ∧ s.1.1 ≤ M + K) ∧ (-(M + K) ≤ s.2.1 ∧ s.2.1 ≤ M + K)) →
      ((-(M + K) ≤ (gs.foldl (possS D y p) s).1.1 ∧ (gs.foldl (possS D y p) s).1.1 ≤ M + K) ∧ (-(M + K) ≤ (gs.foldl (possS D y p) s).2.1 ∧ (gs.foldl (possS D y p) s).2.1 ≤ M + K)) := by
    induction gs with
    | nil => exact fun s h => h
    | cons g gs ih =>
      intro s h
      refine ih _ ?_
      unfold possS
      refine ⟨?_, ?_⟩
      · dsimp only
        split
        · exact lowF_cl (hy g) (hD _) h0
        · exact h.1
      · dsimp only
        split
        · exact highF_cl (hy g) (hD _) h0
        · exact h.2
  exact this _ ⟨⟨by show -(M + K) ≤ 0; omega, h0⟩, ⟨by show -(M + K) ≤ 0; omega, h0⟩⟩
theorem lfzF_cl {C : Int} {l h : Int × Bool} (hl : -C ≤ l.1 ∧ l.1 ≤ C) (hh : -C ≤ h.1 ∧ h.1 ≤ C) (h0 : 0 ≤ C) : -C ≤ lfzF l h ∧ lfzF l h ≤ C := by
  unfold lfzF
  rcases l with ⟨a, _ | _⟩ <;> rcases h with ⟨b, _ | _⟩ <;> simp only [if_true, if_false, Bool.false_eq_true] at * <;> omega
theorem valS_cl {M K : Int} {D : List Int} {s : List Int × List Nat} (hy : Cl M s.1) (hD : Tm K D) (hM : 0 ≤ M) (hK : 0 ≤ K) (p : Nat) : Cl (M + K) (valS D s p).1 := fun k => by
  have hb := possF_cl hy hD (by omega) p s.2
  have hv := lfzF_cl hb.1 hb.2 (by omega)
  unfold valS
  dsimp only
  by_cases hp : p < s.1.length
  · rw [gt_set _ _ _ _ hp]
    split
    · exact hv
    · have := hy k
      omega
  · rw [List.set_eq_of_length_le (by omega)]
    have := hy k
    omega
theorem valK_cl {M K : Int} {D : List Int} {s : List Int × List Nat} (hy : Cl M s.1) (hD : Tm K D) (hM : 0 ≤ M) (hK : 0 ≤ K) (l : List Nat) : Cl (M + K * l.length) (valK D s l).1 := by
  induction l generalizing s M with
  | nil => simpa [valK] using hy
  | cons p l ih =>
    have := ih (valS_cl hy hD hM hK p) (by omega)
    rw [show M + K * ((p :: l).length : Int) = M + K + K * l.length from by rw [List.length_cons]; push_cast; rw [Int.mul_add]; omega]
    exact this
theorem valK_length (D : List Int) (s : List Int × List Nat) (l : List Nat) : (valK D s l).1.length = s.1.length ∧ (valK D s l).2.length = s.2.length + l.length := by
  induction l generalizing s with
  | nil => exact ⟨rfl, rfl⟩
  | cons p l ih =>
    have := ih (valS D s p)
    simp only [valS, List.length_set, List.length_append, List.length_cons, List.length_nil] at this
    refine ⟨this.1, this.2.trans ?_⟩
    simp only [List.length_cons]
    omega
theorem valK_mem {D : List Int} {s : List Int × List Nat} {l : List Nat} {N : Nat} (hs : ∀ g ∈ s.2, g < N) (hl : ∀ g ∈ l, g < N) : ∀ g ∈ (valK D s l).2, g < N := by
  induction l generalizing s with
  | nil => exact hs
  | cons p l ih =>
    refine ih (s := valS D s p) (fun g hg => ?_) (fun g hg => hl g (by simp [hg]))
    simp only [valS, List.mem_append, List.mem_singleton] at hg
    rcases hg with h | rfl
    · exact hs g h
    · exact hl _ (by simp)

theorem valF_length (bs : List Bd) (N : Nat) : (valF bs N).length = N := by
  unfold valF
  rw [(valK_length _ _ _).1]
  exact y1_length _ _
def someF (N : Int) (bs : List Bd) : List Int × Int := if soundF N bs [] = 0 then (valF bs N.toNat, 0) else ([], soundF N bs [])

end Go.Proofs.Ytnmiecnpiadcnaa.Ln
