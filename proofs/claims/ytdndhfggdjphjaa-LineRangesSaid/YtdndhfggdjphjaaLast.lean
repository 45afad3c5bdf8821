/-
  A region that draws its order and ends with one operation that waits for all the others: the others first, then that one.
-/
import Derived.Test.YtdndhfggdjphjaaBase
set_option linter.unusedVariables false
set_option linter.unusedSimpArgs false
namespace Go.Proofs.Ytdndhfggdjphjaa
open Go.RowKit

/-- What is asked behind all operations but the last one. -/
def QLast (P : Program) (ops : Array Oper) (o : Oper) (Q : Exit → Act → World → Prop) : Exit → Act → World → Prop
  | .normal, a, w => wpList P ops Q [o] a w
  | .panic c, a, w => Q (.panic c) a w
  | .outgrown, a, w => Q .outgrown a w
  | _, _, _ => False

def lastB (l : List Oper) (o : Oper) : Bool :=
  (l ++ [o]).all (fun x => x.guard.isNone) &&
  (List.range l.length).all (fun j => match l[j]? with | some x => x.after.all (fun e => decide (e.on < j)) | none => true) &&
  o.after.all (fun e => decide (e.on < l.length)) &&
  (List.range l.length).all (fun i => o.after.any (fun e => Region.binds .any e && e.on == i))

section
variable {P : Program} {Q : Exit → Act → World → Prop} {l : List Oper} {o : Oper}

theorem wanted_free {x : Oper} (h : x.guard.isNone = true) (f : Nat → Option Bool) : Region.wanted x f = true := by
  unfold Region.wanted
  cases hg : x.guard with
  | none => rfl
  | some g => rw [hg] at h; cases h

theorem lets_last {ops : Array Oper} (h : LetsOut (QLast P ops o Q)) : LetsOut Q := h

theorem wpOp_last {ops : Array Oper} (hg : ∀ x ∈ l ++ [o], x.guard.isNone = true) {i : Nat} (hi : i < l.length) {K K' : Act → World → Prop} (hK : ∀ a w, K a w → K' a w) {a : Act} {w : World}
    (h : wpOp P l.toArray (QLast P ops o Q) i K a w) : wpOp P (l ++ [o]).toArray Q i K' a w := by
  unfold wpOp at h ⊢
  have e1 : l.toArray[i]? = some l[i] := by simp [hi]
  have e2 : (l ++ [o]).toArray[i]? = some l[i] := by simp [List.getElem?_append_left hi, hi]
  rw [e1] at h
  rw [e2]
  dsimp only at h ⊢
  have hw := hg l[i] (by simp)
  rw [if_pos (wanted_free hw _)] at h ⊢
  rcases h with h | h
  · left
    have h := Oper.wp_mono hK h
    unfold Oper.wp at h ⊢
    generalize (execOp a.eval l[i]).run P w = r at h ⊢
    cases r with
    | ok n w' =>
      cases n <;> simp only [Oper.upon] at h ⊢
      all_goals first | exact h | exact Calls.mono h fun e w'' he => by cases e <;> exact he
    | halt x w' =>
      cases x <;> simp only [Oper.upon] at h ⊢
      all_goals exact h
  · exact .inr ⟨h.1, h.2⟩

theorem wpAny_last (hB : lastB l o = true) :
    ∀ (fuel : Nat) (listed : Array Bool) (a : Act) (w : World), listed.size = l.length → wpAny P .any l.toArray (QLast P (l ++ [o]).toArray o Q) fuel listed a w → wpAny P .any (l ++ [o]).toArray Q (fuel + 1) (listed.push false) a w := by
  simp only [lastB, Bool.and_eq_true, List.all_eq_true, List.mem_range] at hB
  obtain ⟨⟨⟨hg, hlt⟩, ho⟩, hs⟩ := hB
  have hon : ∀ (j : Nat) (x : Oper), l[j]? = some x → ∀ e ∈ x.after, e.on < j := fun j x hj e he => by
    have hjl : j < l.length := (List.getElem?_eq_some_iff.1 hj).1
    have := hlt j hjl
    rw [hj] at this
    have := Array.all_eq_true_iff_forall_mem.1 this e he
    simpa using this
  have hget : ∀ (L : Array Bool), L.size = l.length → ∀ i, i < l.length → ∀ d : Bool, (L.push false).getD i d = L.getD i d := fun L hL i hi d => by
    simp [Array.getD, hL, hi, Array.getElem_push, show i < l.length + 1 by omega]
  -- who is ready
  have hrd : ∀ (L : Array Bool), L.size = l.length → ∀ i, i ∈ Region.ready .any (l ++ [o]).toArray (L.push false) → i < l.length → i ∈ Region.ready .any l.toArray L := fun L hL i hi hil => by
    obtain ⟨h1, x, hx, h2⟩ := mem_ready.1 hi
    have hx' : l[i]? = some x := by simpa [List.getElem?_append_left hil] using hx
    refine mem_ready.2 ⟨by rw [hget L hL i hil] at h1; exact h1, x, by simpa using hx', fun e he hb => ?_⟩
    have := h2 e he hb
    rw [hget L hL _ (by have := hon i x hx' e he; omega)] at this
    exact this
  have hrl : ∀ (L : Array Bool), L.size = l.length → l.length ∈ Region.ready .any (l ++ [o]).toArray (L.push false) → ∀ i, i < l.length → L.getD i false = true := fun L hL hr i hi => by
    obtain ⟨h1, x, hx, h2⟩ := mem_ready.1 hr
    have hx' : x = o := by simpa using hx.symm
    subst hx'
    have := hs i hi
    obtain ⟨e, he, hb⟩ := Array.any_eq_true'.1 this
    simp only [Bool.and_eq_true, beq_iff_eq] at hb
    have := h2 e he hb.1
    rw [hb.2, hget L hL i hi] at this
    exact this
  have hnone : ∀ (L : Array Bool), L.size = l.length → Region.ready .any (l ++ [o]).toArray (L.push false) ≠ [] := fun L hL h0 => by
    -- the least that is not listed is ready
    have key : ∀ i, i ≤ l.length → ∀ j, j < i → L.getD j false = true := by
      intro i
      induction i with
      | zero => intro _ j hj; omega
      | succ i ih =>
        intro hi j hj
        rcases Nat.lt_or_ge j i with e | e
        · exact ih (by omega) j e
        · obtain rfl : j = i := by omega
          refine Classical.byContradiction fun hne => ?_
          have hil : j < l.length := by omega
          have : j ∈ Region.ready .any (l ++ [o]).toArray (L.push false) := by
            refine mem_ready.2 ⟨?_, l[j], by simp [List.getElem?_append_left hil, hil], fun e he hb => ?_⟩
            · rw [hget L hL j hil]
              have : j < L.size := by omega
              simp [Array.getD, this] at hne ⊢
              exact hne
            · have hlt := hon j l[j] (by simp [hil]) e he
              rw [hget L hL _ (by omega)]
              exact ih (by omega) _ hlt
          rw [h0] at this
          cases this
    have hr : l.length ∈ Region.ready .any (l ++ [o]).toArray (L.push false) := by
      refine mem_ready.2 ⟨by rw [← hL]; simp [Array.getD], o, by simp, fun e he hb => ?_⟩
      have hlt : e.on < l.length := by simpa using Array.all_eq_true_iff_forall_mem.1 ho e he
      rw [hget L hL _ hlt]
      exact key l.length (Nat.le_refl _) _ hlt
    rw [h0] at hr
    cases hr
  have hdone : ∀ (L : Array Bool), L.size = l.length → (∀ i, i < l.length → L.getD i false = true) → Region.ready .any (l ++ [o]).toArray ((L.push false).setIfInBounds l.length true) = [] := fun L hL hall => by
    rw [List.eq_nil_iff_forall_not_mem]
    intro i hi
    obtain ⟨h1, x, hx, _⟩ := mem_ready.1 hi
    have hil : i < l.length + 1 := by simpa using (Array.getElem?_eq_some_iff.1 hx).1
    rcases Nat.lt_or_ge i l.length with e | e
    · have := hall i e
      have hi2 : i < L.size := by omega
      simp [Array.getD, hi2] at this
      simp [Array.getD, hL, Array.getElem_setIfInBounds, Array.getElem_push, e, hil, this, show ¬ l.length = i by omega] at h1
    · obtain rfl : i = l.length := by omega
      simp [Array.getD, hL] at h1
  have hlast : ∀ (L : Array Bool) (fuel : Nat) (a : Act) (w : World), L.size = l.length → (∀ i, i < l.length → L.getD i false = true) → wpList P (l ++ [o]).toArray Q [o] a w → wpOp P (l ++ [o]).toArray Q l.length (wpAny P .any (l ++ [o]).toArray Q fuel ((L.push false).setIfInBounds l.length true)) a w := fun L fuel a w hL hall hq => by
    have hd := hdone L hL hall
    have hfin : ∀ a w, Q .normal a w → wpAny P .any (l ++ [o]).toArray Q fuel ((L.push false).setIfInBounds l.length true) a w := fun a w h => by
      cases fuel with
      | zero => exact ⟨hd, h⟩
      | succ f => exact ⟨fun _ => h, by rw [hd]; simp⟩
    unfold wpOp
    have e2 : (l ++ [o]).toArray[l.length]? = some o := by simp
    rw [e2]
    dsimp only
    have hw := hg o (by simp)
    rw [if_pos (wanted_free hw _)]
    unfold wpList at hq
    rw [if_pos (wanted_free hw _)] at hq
    rcases hq with hq | hq
    · exact .inl (Oper.wp_mono (fun a w h => hfin a w h) hq)
    · exact .inr hq
  intro fuel
  induction fuel with
  | zero =>
    intro listed a w hL h
    refine ⟨fun h0 => absurd h0 (hnone listed hL), fun i hi => ?_⟩
    have hil : i < l.length + 1 := by
      obtain ⟨_, x, hx, _⟩ := mem_ready.1 hi
      simpa using (Array.getElem?_eq_some_iff.1 hx).1
    rcases Nat.lt_or_ge i l.length with e | e
    · have := hrd listed hL i hi e
      rw [h.1] at this
      cases this
    · obtain rfl : i = l.length := by omega
      exact hlast listed 0 a w hL (hrl listed hL hi) h.2
  | succ fuel ih =>
    intro listed a w hL h
    refine ⟨fun h0 => absurd h0 (hnone listed hL), fun i hi => ?_⟩
    have hil : i < l.length + 1 := by
      obtain ⟨_, x, hx, _⟩ := mem_ready.1 hi
      simpa using (Array.getElem?_eq_some_iff.1 hx).1
    rcases Nat.lt_or_ge i l.length with e | e
    · refine wpOp_last hg e (fun a w k => ?_) (h.2 i (hrd listed hL i hi e))
      have := ih (listed.setIfInBounds i true) a w (by simpa using hL) k
      have he : (listed.setIfInBounds i true).push false = (listed.push false).setIfInBounds i true := by
        apply Array.ext_getElem?
        intro j
        simp only [Array.getElem?_push, Array.getElem?_setIfInBounds, Array.size_setIfInBounds, Array.size_push, hL]
        by_cases h1 : i = j
        · subst h1
          simp [e, show ¬ i = l.length by omega, show i < l.length + 1 by omega]
        · by_cases h2 : j = l.length
          · subst h2; simp [h1, show ¬ i = l.length by omega]
          · simp [h1, h2]
      rw [he] at this
      exact this
    · obtain rfl : i = l.length := by omega
      have hall := hrl listed hL hi
      refine hlast listed _ a w hL hall (h.1 ?_)
      rw [List.eq_nil_iff_forall_not_mem]
      intro j hj
      obtain ⟨h1, x, hx, _⟩ := mem_ready.1 hj
      have hjl : j < l.length := by simpa using (Array.getElem?_eq_some_iff.1 hx).1
      have := hall j hjl
      have hj2 : j < listed.size := by omega
      simp [Array.getD, hj2] at this h1
      rw [this] at h1
      cases h1

theorem wp_region_last {id : Nat} {S : World → Prop} {a : Act} {w : World} (l : List Oper) (o : Oper) (hm : P.follows .mixedOrders = true) (hB : lastB l o = true) (hS : S w.drew)
    (h : S w.drew → wpAnyH P .any l.toArray (QLast P (l ++ [o]).toArray o Q) S l.length (Array.replicate l.length false) a w.drew) : (Code.region id (l ++ [o]).toArray true).wp P Q a w := by
  refine wp_region_any hm ?_
  have h2 := wpAny_last hB l.length (Array.replicate l.length false) a w.drew (by simp) (wpAny_of_held _ _ _ _ (h hS))
  have e : (Array.replicate l.length false).push false = Array.replicate (l ++ [o]).toArray.size false := by simp [Array.replicate_succ]
  rw [e] at h2
  simpa using h2

/-- As a walk meets it: the operations as they stand; n: how many come before the last. -/
theorem wp_region_last2 {id : Nat} {S : World → Prop} {a : Act} {w : World} {ops : Array Oper} {o : Oper} (n : Nat) (ho : ops[n]? = some o) (hn : ops.size = n + 1) (hm : P.follows .mixedOrders = true) (hB : lastB (ops.toList.take n) o = true) (hS : S w.drew)
    (h : S w.drew → wpAnyH P .any (ops.toList.take n).toArray (QLast P ops o Q) S n (Array.replicate n false) a w.drew) : (Code.region id ops true).wp P Q a w := by
  have hl : (ops.toList.take n).length = n := by simp; omega
  have e : (ops.toList.take n ++ [o]).toArray = ops := by
    apply Array.ext_getElem?
    intro i
    rcases Nat.lt_or_ge i n with h1 | h1
    · simp [List.getElem?_append_left (show i < (ops.toList.take n).length by omega), List.getElem?_take, h1]
    · rcases Nat.lt_or_ge n i with h2 | h2
      · rw [Array.getElem?_eq_none (by simp; omega), Array.getElem?_eq_none (by omega)]
      · obtain rfl : i = n := by omega
        rw [ho]
        simp [List.getElem?_append_right (show (ops.toList.take i).length ≤ i by omega), hl]
  have h2 := wp_region_last (Q := Q) (id := id) (S := S) (a := a) (w := w) (ops.toList.take n) o hm hB hS
  rw [hl, e] at h2
  exact h2 h
end

end Go.Proofs.Ytdndhfggdjphjaa
