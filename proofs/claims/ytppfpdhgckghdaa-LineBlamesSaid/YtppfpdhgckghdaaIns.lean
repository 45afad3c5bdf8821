/-
  A list that numbers are inserted into, in memory; to insert one by one is to sort and to strike what stands twice.
-/
import Derived.Test.YtppfpdhgckghdaaHas
import Derived.Test.YtppfpdhgckghdaaRec
set_option linter.unusedVariables false
set_option linter.unusedSimpArgs false
namespace Go.Proofs.Ytppfpdhgckghdaa
open Go.RowKit Go.Shelf

theorem Sl.below {w w' : World} {v : Value} {l : List Int} (h : Sl w v l) (hb : Below w.heap.size w w') : Sl w' v l := by
  obtain ⟨A, c, e, h1, h2, hrd, h0⟩ := h
  exact ⟨A, c, e, h1, h2, (hrd.below hb (Nat.le_refl _)).more hb.size, h0⟩
theorem Sl.nil (w : World) : Sl w (.slice none 0 0) [] := ⟨none, 0, rfl, Nat.le_refl _, Nat.zero_le _, Rd.nil _ _ _ _, fun _ => ⟨rfl, rfl⟩⟩

namespace Ln
theorem insF_length (l : List Int) (n : Int) : (insF l n).length ≤ l.length + 1 := by
  unfold insF
  split
  · omega
  · simp; omega
end Ln

end Go.Proofs.Ytppfpdhgckghdaa

/-! To insert one by one is to sort and to strike what stands twice. -/
namespace Go.Proofs.Ytppfpdhgckghdaa
namespace Ln

theorem uniq : ∀ {l r : List Int}, l.Pairwise (· < ·) → r.Pairwise (· < ·) → (∀ x, x ∈ l ↔ x ∈ r) → l = r
  | [], [], _, _, _ => rfl
  | [], y :: r, _, _, h => absurd ((h y).2 (by simp)) (by simp)
  | x :: l, [], _, _, h => absurd ((h x).1 (by simp)) (by simp)
  | x :: l, y :: r, hl, hr, h => by
    rw [List.pairwise_cons] at hl hr
    have e : x = y := by
      rcases List.mem_cons.1 ((h x).1 (by simp)) with e | hx
      · exact e
      · rcases List.mem_cons.1 ((h y).2 (by simp)) with e | hy
        · exact e.symm
        · have := hl.1 y hy
          have := hr.1 x hx
          omega
    subst e
    refine congrArg _ (uniq hl.2 hr.2 fun z => ⟨fun hz => ?_, fun hz => ?_⟩)
    · rcases List.mem_cons.1 ((h z).1 (List.mem_cons_of_mem _ hz)) with e | hx
      · subst e
        have := hl.1 z hz
        omega
      · exact hx
    · rcases List.mem_cons.1 ((h z).2 (List.mem_cons_of_mem _ hz)) with e | hx
      · subst e
        have := hr.1 z hz
        omega
      · exact hx

theorem compact_sorted (d : Array Int) (hd : ∀ i j, i ≤ j → j < d.size → d[i]! ≤ d[j]!) : ∀ m, m ≤ d.size →
    (Lib.compactUpTo d m).Pairwise (· < ·) ∧ ∀ x, x ∈ Lib.compactUpTo d m ↔ ∃ j, j < m ∧ d[j]! = x
  | 0, _ => ⟨by simp [Lib.compactUpTo], fun x => by simp [Lib.compactUpTo]⟩
  | m + 1, hm => by
    obtain ⟨h1, h2⟩ := compact_sorted d hd m (by omega)
    rw [Lib.compactUpTo_succ]
    by_cases hk : Lib.keeps d m = true
    · rw [if_pos hk]
      refine ⟨List.pairwise_append.2 ⟨h1, by simp, fun a ha b hb => ?_⟩, fun x => ?_⟩
      · rw [List.mem_singleton.1 hb]
        obtain ⟨j, hj, rfl⟩ := (h2 a).1 ha
        have hk' : m = 0 ∨ d[m]! ≠ d[m - 1]! := by simpa [Lib.keeps] using hk
        have a1 := hd j (m - 1) (by omega) (by omega)
        have a2 := hd (m - 1) m (by omega) (by omega)
        rcases hk' with h | h
        · omega
        · omega
      · rw [List.mem_append, h2 x]
        constructor
        · rintro (⟨j, hj, e⟩ | e)
          · exact ⟨j, by omega, e⟩
          · exact ⟨m, by omega, (List.mem_singleton.1 e).symm⟩
        · rintro ⟨j, hj, e⟩
          by_cases hjm : j = m
          · subst hjm
            exact .inr (List.mem_singleton.2 e.symm)
          · exact .inl ⟨j, by omega, e⟩
    · rw [if_neg hk, List.append_nil]
      refine ⟨h1, fun x => (h2 x).trans ⟨fun ⟨j, hj, e⟩ => ⟨j, by omega, e⟩, fun ⟨j, hj, e⟩ => ?_⟩⟩
      have hk' : ¬ (m = 0 ∨ d[m]! ≠ d[m - 1]!) := by simpa [Lib.keeps] using hk
      by_cases hjm : j = m
      · subst hjm
        exact ⟨j - 1, by omega, by rw [← e]; exact (Classical.not_not.1 fun h => hk' (.inr h)).symm⟩
      · exact ⟨j, by omega, e⟩

theorem insF_sorted {l : List Int} (n : Int) (h : l.Pairwise (· < ·)) : (insF l n).Pairwise (· < ·) ∧ ∀ x, x ∈ insF l n ↔ x = n ∨ x ∈ l := by
  have hsp : l.take (insK l n) = l.takeWhile (fun x => decide (x < n)) := by
    unfold insK
    conv => lhs; arg 2; rw [← List.takeWhile_append_dropWhile (p := fun x => decide (x < n)) (l := l)]
    rw [List.take_left']
    rfl
  have hdr : l.drop (insK l n) = l.dropWhile (fun x => decide (x < n)) := by
    unfold insK
    conv => lhs; arg 2; rw [← List.takeWhile_append_dropWhile (p := fun x => decide (x < n)) (l := l)]
    rw [List.drop_left']
    rfl
  have hlt : ∀ x ∈ l.take (insK l n), x < n := fun x hx => by
    rw [hsp] at hx
    have ha : (l.takeWhile (fun x => decide (x < n))).all (fun x => decide (x < n)) = true := List.all_takeWhile
    simpa using List.all_eq_true.1 ha x hx
  have e : l = l.take (insK l n) ++ l.drop (insK l n) := (List.take_append_drop _ l).symm
  have hp := h
  rw [e, List.pairwise_append] at hp
  have hget : (l.drop (insK l n)).head? = l[insK l n]? := by rw [List.head?_drop]
  rcases hd : l.drop (insK l n) with _ | ⟨y, t⟩
  · have hne : l[insK l n]? ≠ some n := by rw [← hget, hd]; simp
    rw [insF_new rfl hne, hd, List.append_nil]
    refine ⟨List.pairwise_append.2 ⟨hp.1, by simp, fun a ha b hb => by rw [List.mem_singleton.1 hb]; exact hlt a ha⟩, fun x => ?_⟩
    have e2 : l.take (insK l n) = l := by conv => rhs; rw [e, hd, List.append_nil]
    rw [e2]
    simp [or_comm]
  · have hy : ¬ y < n := by
      intro hyn
      have h3 := List.head?_dropWhile_not (fun x => decide (x < n)) l
      rw [← hdr, hd] at h3
      simp at h3
      omega
    have hpt := hp.2.1
    rw [hd, List.pairwise_cons] at hpt
    by_cases hyn : y = n
    · subst hyn
      have hs : l[insK l y]? = some y := by rw [← hget, hd]; rfl
      rw [insF_same rfl hs]
      exact ⟨h, fun x => ⟨.inr, fun h => h.elim (fun e => by subst e; exact List.mem_of_getElem? hs) id⟩⟩
    · have hne : l[insK l n]? ≠ some n := by rw [← hget, hd]; simpa using hyn
      rw [insF_new rfl hne]
      refine ⟨?_, fun x => ?_⟩
      · rw [List.append_assoc, List.pairwise_append]
        refine ⟨hp.1, ?_, fun a ha b hb => ?_⟩
        · rw [List.singleton_append, List.pairwise_cons]
          refine ⟨fun b hb => ?_, hp.2.1⟩
          rw [hd] at hb
          rcases List.mem_cons.1 hb with rfl | hb
          · omega
          · have := hpt.1 b hb
            omega
        · rcases List.mem_cons.1 hb with rfl | hb
          · exact hlt a ha
          · exact hp.2.2 a ha b hb
      · conv => rhs; rw [e]
        simp only [List.mem_append, List.mem_singleton]
        constructor
        · rintro ((h | h) | h)
          · exact .inr (.inl h)
          · exact .inl h
          · exact .inr (.inr h)
        · rintro (h | h | h)
          · exact .inl (.inr h)
          · exact .inl (.inl h)
          · exact .inr h

theorem fold_ins : ∀ (q o : List Int), o.Pairwise (· < ·) → (q.foldl insF o).Pairwise (· < ·) ∧ ∀ x, x ∈ q.foldl insF o ↔ x ∈ q ∨ x ∈ o
  | [], o, h => ⟨h, fun x => by simp⟩
  | n :: q, o, h => by
    obtain ⟨h1, h2⟩ := insF_sorted n h
    obtain ⟨h3, h4⟩ := fold_ins q (insF o n) h1
    rw [List.foldl_cons]
    refine ⟨h3, fun x => ?_⟩
    rw [h4, h2, List.mem_cons]
    constructor
    · rintro (h | h | h)
      · exact .inl (.inr h)
      · exact .inl (.inl h)
      · exact .inr h
    · rintro ((h | h) | h)
      · exact .inr (.inl h)
      · exact .inl h
      · exact .inr (.inr h)

theorem recC_eq (q : List Int) : recC q = q.foldl insF [] := by
  obtain ⟨S, hS⟩ : ∃ S, (q.mergeSort fun x y => decide (x ≤ y)) = S := ⟨_, rfl⟩
  have hmem : ∀ x, x ∈ S ↔ x ∈ q := fun x => by rw [← hS]; exact List.mem_mergeSort
  have hso : S.Pairwise (fun a b => decide (a ≤ b) = true) := by
    rw [← hS]
    exact List.pairwise_mergeSort (fun a b c h1 h2 => by simp at h1 h2 ⊢; omega) (fun a b => by simp; omega) q
  have hsd : ∀ i j, i ≤ j → j < S.toArray.size → S.toArray[i]! ≤ S.toArray[j]! := fun i j hij hj => by
    have hj' : j < S.length := by simpa using hj
    have hi' : i < S.length := by omega
    simp only [List.getElem!_toArray]
    rw [getElem!_pos S i hi', getElem!_pos S j hj']
    rcases Nat.lt_or_eq_of_le hij with h | h
    · have := List.pairwise_iff_getElem.1 hso i j hi' hj' h
      simpa using this
    · subst h; exact Int.le_refl _
  obtain ⟨h1, h2⟩ := compact_sorted S.toArray hsd S.length (by simp)
  obtain ⟨h3, h4⟩ := fold_ins q [] (by simp)
  unfold recC Lib.compact
  rw [hS]
  refine uniq h1 h3 fun x => ?_
  rw [h2, h4]
  constructor
  · rintro ⟨j, hj, rfl⟩
    refine .inl ((hmem _).1 ?_)
    simp only [List.getElem!_toArray]
    rw [getElem!_pos S j hj]
    exact List.getElem_mem hj
  · rintro (h | h)
    · obtain ⟨j, hj, e⟩ := List.getElem_of_mem ((hmem x).2 h)
      refine ⟨j, hj, ?_⟩
      simp only [List.getElem!_toArray]
      rw [getElem!_pos S j hj]
      exact e
    · simp at h

end Ln
end Go.Proofs.Ytppfpdhgckghdaa
