/-
  General laws on regions: inside a round; a last operation that writes a cell which the region loads; append of what a slice reads as; a function that leaves with marks alone.
-/
import Derived.Test.YtncdeogpmodoaaaGreatDoorBase
import Derived.Deep.RegionHeld3
import Derived.StillTail
import Derived.Maps.AppendAt
set_option linter.unusedVariables false
set_option linter.unusedSimpArgs false
namespace Go.Proofs.YtncdeogpmodoaaaGreatDoor
open Go.RowKit Go.Shelf


/-! ### A region that draws its order, inside a round: as outside, where nothing is deferred -/
theorem wpOpIn_round {F : Fence} {n : Nat} {P : Program} {ops : Array Oper} {Q : Exit → Act → World → Prop} {i l : Nat} {K K' : Act → World → Prop} {a : Act} {w : World} (hro : F.round = none) (hd : ∀ o ∈ ops, ∀ c, o.op ≠ .defer c)
    (hK : ∀ a w, K a w → K' a w) (h : wpOpIn F n P ops Q i K a w) : wpOpIn (F.inRound l) n P ops Q i K' a w := by
  have h := wpOpIn_mono hK h
  unfold wpOpIn at *
  cases ho : ops[i]? with
  | none => simpa [ho] using h
  | some o =>
    simp only [ho] at h ⊢
    split
    · rename_i hw
      simp only [hw, if_true] at h
      unfold Oper.wpIn at *
      refine ⟨h.1, ?_⟩
      have h2 := h.2
      rw [Oper.semAt_eq _ _ _ (hd o (Array.mem_of_getElem? ho))] at h2 ⊢
      exact h2
    · rename_i hw
      simp only [hw] at h
      exact h

theorem wpAnyIn_round {F : Fence} {n : Nat} {P : Program} {md : Region.Mode} {ops : Array Oper} {Q : Exit → Act → World → Prop} {l : Nat} (hro : F.round = none) (hd : ∀ o ∈ ops, ∀ c, o.op ≠ .defer c) :
    ∀ (fuel : Nat) (listed : Array Bool) (a : Act) (w : World), wpAnyIn F n P md ops Q fuel listed a w → wpAnyIn (F.inRound l) n P md ops Q fuel listed a w
  | 0, _, _, _, h => h
  | fuel + 1, _, _, _, h => ⟨h.1, fun i hi => wpOpIn_round hro hd (fun a w h => wpAnyIn_round hro hd fuel _ a w h) (h.2 i hi)⟩

def noDefer (l : List Oper) : Bool := l.all fun o => match o.op with | .defer _ => false | _ => true
theorem noDefer_spec {l : List Oper} (h : noDefer l = true) : ∀ o ∈ l.toArray, ∀ c, o.op ≠ .defer c := fun o ho c e => by
  have := List.all_eq_true.1 h o (by simpa using ho)
  rw [e] at this
  cases this

theorem wpIn_region_quiet_round {F : Fence} {n : Nat} {P : Program} {id lr : Nat} {Q : Exit → Act → World → Prop} {a : Act} {w : World} {l : List Oper} (hro : F.round = none) (hm : P.follows .mixedOrders = true) (hd : noDefer l = true) (hB : Region.lexB .any l.toArray = true)
    (h : wpQuietIn F n P l.toArray (fun w' => ∃ n, w' = w.drewN n) (fun a' => ∀ w', (∃ n, w' = w.drewN n) → Q .normal a' w') l a) : (Code.region id l.toArray true).wpIn (F.inRound lr) n P Q a w := by
  simp only [Region.lexB, Bool.and_eq_true] at hB
  refine wpIn_region_any hm (wpAnyIn_round hro (noDefer_spec hd) _ _ _ _ (wpAnyIn_of_quiet (C := fun w' => ∃ n, w' = w.drewN n) (Q := fun a' => ∀ w', (∃ n, w' = w.drewN n) → Q .normal a' w') hro (fun _ w' hw' h => h w' hw') _ _ _ _ ⟨1, rfl⟩ ?_))
  have := wpAnyQIn_lex (F := F) (n := n) (C := fun w' => ∃ n, w' = w.drewN n) (md := .any) hB.1 l 0 (Array.replicate l.toArray.size false) a (by simp) (by simpa using hB.2) h
  simpa using this

/-! ### A function that leaves with marks alone among its deferred calls -/
def mark (D : Nat) : Deferred := { target := .collected D, args := #[] }

theorem leaves_marks {F : Fence} {n : Nat} {P : Program} {fn : Func} {tmps : Array Value} {R : Ending → World → Prop} : ∀ (Ds : List Nat) (w : World), Ds.Nodup → (∀ D ∈ Ds, w.heap[D]? = some (.deferred (some []))) →
    (∀ w', KeepX w.heap.size (· ∈ Ds) w w' → LeavesIn F n P fn tmps R [] .returning w') → LeavesInM F n P fn tmps R (Ds.map mark) .returning w
  | [], w, _, _, h => h w (KeepX.refl _ _ _)
  | D :: Ds, w, hn, hD, h => by
    have hK := hD D (by simp)
    obtain ⟨hnot, hn'⟩ := List.nodup_cons.1 hn
    have hg := grownBy_putObj' w D (.deferred none)
    refine ⟨by simp, .inl ⟨D, _, rfl, run_takeDeferred hK, ?_⟩⟩
    refine leaves_marks Ds _ hn' (fun E hE => ?_) (fun w' hw => h w' ?_)
    · have hEl := (Array.getElem?_eq_some_iff.1 (hD E (by simp [hE]))).1
      rw [hg.block E hEl (fun e => by cases e; exact hnot hE)]
      exact hD E (by simp [hE])
    · have h1 : KeepX w.heap.size (· ∈ D :: Ds) w (w.putObj D (.deferred none)) := .of_grown hg (Nat.le_refl _) (fun k e _ => by cases e; simp)
      exact h1.trans (hw.mono (by simp [World.putObj]) (fun k _ hk => by simp [hk]))

/-- The same where the function leaves by a panic. -/
theorem leaves_marks_panic {F : Fence} {n : Nat} {P : Program} {fn : Func} {tmps : Array Value} {R : Ending → World → Prop} {chain : List PanicEntry} : ∀ (Ds : List Nat) (w : World), Ds.Nodup → (∀ D ∈ Ds, w.heap[D]? = some (.deferred (some []))) →
    (∀ w', KeepX w.heap.size (· ∈ Ds) w w' → R (.panicked chain) w') → LeavesInM F n P fn tmps R (Ds.map mark) (.panicking chain) w
  | [], w, _, _, h => h w (KeepX.refl _ _ _)
  | D :: Ds, w, hn, hD, h => by
    have hK := hD D (by simp)
    obtain ⟨hnot, hn'⟩ := List.nodup_cons.1 hn
    have hg := grownBy_putObj' w D (.deferred none)
    refine ⟨by simp, .inl ⟨D, _, rfl, run_takeDeferred hK, ?_⟩⟩
    refine leaves_marks_panic Ds _ hn' (fun E hE => ?_) (fun w' hw => h w' ?_)
    · have hEl := (Array.getElem?_eq_some_iff.1 (hD E (by simp [hE]))).1
      rw [hg.block E hEl (fun e => by cases e; exact hnot hE)]
      exact hD E (by simp [hE])
    · have h1 : KeepX w.heap.size (· ∈ D :: Ds) w (w.putObj D (.deferred none)) := .of_grown hg (Nat.le_refl _) (fun k e _ => by cases e; simp)
      exact h1.trans (hw.mono (by simp [World.putObj]) (fun k _ hk => by simp [hk]))

theorem upon_wide {P : Program} {o : Oper} {a : Act} {next : Act → World → Prop} {Q : Exit → Act → World → Prop} {r : Result Next} {n l : Nat} (h : o.upon P a next Q r) : o.uponIn (Fence.wide.inRound l) n P a next Q r := by
  have hd : (Fence.wide.inRound l).depth.isSome = true → 1 ≤ n := fun h => by cases h
  cases r with
  | ok x w =>
    cases x with
    | value v => exact h
    | skip => exact h
    | defer d => exact h
    | enter f args => exact ⟨hd, callsIn_wide.2 h⟩
    | row row args => exact ⟨hd, fun c cs _ => let ⟨v, w', hr, s⟩ := h c cs; ⟨v, w', hr, stepsIn_wide.2 s⟩⟩
    | _ => exact absurd h (by simp [Oper.upon])
  | halt x w =>
    cases x with
    | panic v => exact h
    | _ => exact absurd h (by simp [Oper.upon])

theorem wpOpIn_of_plain {P : Program} {ops : Array Oper} {Q : Exit → Act → World → Prop} {i n l : Nat} {K K' : Act → World → Prop} {a : Act} {w : World} (hd : ∀ o ∈ ops, ∀ c, o.op ≠ .defer c) (hQ : ¬ LetsOut Q)
    (hK : ∀ a w, K a w → K' a w) (h : wpOp P ops Q i K a w) : wpOpIn (Fence.wide.inRound l) n P ops Q i K' a w := by
  unfold wpOp at h
  unfold wpOpIn
  cases ho : ops[i]? with
  | none =>
    simp only [ho] at h ⊢
    exact hK _ _ h
  | some o =>
    simp only [ho] at h ⊢
    split
    · rename_i hw
      simp only [hw, if_true] at h
      rcases h with h | h
      · have h := Oper.wp_mono hK h
        unfold Oper.wp at h
        unfold Oper.wpIn
        refine ⟨fun _ _ => trivial, ?_⟩
        rw [Oper.semAt_eq _ _ _ (hd o (Array.mem_of_getElem? ho))]
        exact upon_wide h
      · exact absurd h.2 hQ
    · rename_i hw
      simp only [hw] at h
      exact ⟨fun _ _ => trivial, hK _ _ h⟩

theorem wpAnyIn_of_plain {P : Program} {md : Region.Mode} {ops : Array Oper} {Q : Exit → Act → World → Prop} {n l : Nat} (hd : ∀ o ∈ ops, ∀ c, o.op ≠ .defer c) (hQ : ¬ LetsOut Q) :
    ∀ (fuel : Nat) (listed : Array Bool) (a : Act) (w : World), wpAny P md ops Q fuel listed a w → wpAnyIn (Fence.wide.inRound l) n P md ops Q fuel listed a w
  | 0, _, _, _, h => h
  | fuel + 1, _, _, _, h => ⟨h.1, fun i hi => wpOpIn_of_plain hd hQ (fun a w h => wpAnyIn_of_plain hd hQ fuel _ a w h) (h.2 i hi)⟩

theorem wpIn_region_tail_round {P : Program} {id lr m : Nat} {Q : Exit → Act → World → Prop} {a : Act} {w : World} {l : List Oper} (n : Nat) (hm : P.follows .mixedOrders = true) (hd : noDefer l = true) (hB : Region.lexTailB .any l.toArray n = true) (hQ : ¬ LetsOut Q)
    (h : wpStill P l.toArray { w with drawn := w.drawn + 1 } (fun a' => wpList P l.toArray Q (l.drop n) a' { w with drawn := w.drawn + 1 }) (l.take n) a) : (Code.region id l.toArray true).wpIn (Fence.wide.inRound lr) m P Q a w := by
  simp only [Region.lexTailB, Bool.and_eq_true, decide_eq_true_eq] at hB
  obtain ⟨⟨⟨⟨hsel, hn⟩, hs⟩, hc⟩, hlex⟩ := hB
  have hn' : n < l.length := by simpa using hn
  have htl : (l.take n).length = n := by simp; omega
  have hdl : (l.drop n).length = l.toArray.size - n := by simp
  have inv0 : HeadInv .any l.toArray n (Array.replicate l.toArray.size false) :=
    ⟨by simp, fun j oj _ hl => (by rw [getD_replicate_false] at hl; cases hl), fun t _ ht => getD_in (by simpa using ht) (getD_replicate_false _ _)⟩
  have H := wpAnyL_lex (md := .any) (g := l.toArray.size - n) hsel hs hc hn (l.take n) 0 _ a (fun j hj => by
    have hj' : j < n := by rw [htl] at hj; exact hj
    simp [hj']) (by simpa using htl) inv0 (by rw [htl]; exact hlex) h
  have h2 := wpAny_of_head (Q' := Q) (g := l.toArray.size - n) (fun listed a' hL => by
    have h3 := wpAny_of_seq (md := .any) (Q' := Q) (l.drop n) n listed a' { w with drawn := w.drawn + 1 } (fun j => by simp [List.getElem?_drop]) (by rw [hdl]; exact hL.1) hL.2
    rwa [hdl] at h3) _ _ _ H
  rw [htl, show n + (l.toArray.size - n) = l.toArray.size by omega] at h2
  exact wpIn_region_any hm (wpAnyIn_of_plain (noDefer_spec hd) hQ _ _ _ _ h2)

/-- What is asked behind all operations but the last one. -/
def QLast (P : Program) (ops : Array Oper) (o : Oper) (Q : Exit → Act → World → Prop) : Exit → Act → World → Prop
  | .normal, a, w => wpList P ops Q [o] a w
  | .panic c, a, w => Q (.panic c) a w
  | .outgrown, a, w => Q .outgrown a w
  | _, _, _ => False

def lastB (l : List Oper) (o : Oper) : Bool :=
  (l ++ [o]).all (fun x => x.guard.isNone) &&
  (List.range l.length).all (fun j => match l[j]? with | some x => x.after.all (fun e => decide (e.on < j)) | none => true) &&
  o.after.all (fun e => decide (e.on < l.length)) &&
  (List.range l.length).all (fun i => o.after.any (fun e => Region.binds .any e && e.on == i))

section
variable {P : Program} {Q : Exit → Act → World → Prop} {l : List Oper} {o : Oper}

theorem wanted_free {x : Oper} (h : x.guard.isNone = true) (f : Nat → Option Bool) : Region.wanted x f = true := by
  unfold Region.wanted
  cases hg : x.guard with
  | none => rfl
  | some g => rw [hg] at h; cases h

theorem lets_last {ops : Array Oper} (h : LetsOut (QLast P ops o Q)) : LetsOut Q := h

theorem wpOp_last {ops : Array Oper} (hg : ∀ x ∈ l ++ [o], x.guard.isNone = true) {i : Nat} (hi : i < l.length) {K K' : Act → World → Prop} (hK : ∀ a w, K a w → K' a w) {a : Act} {w : World}
    (h : wpOp P l.toArray (QLast P ops o Q) i K a w) : wpOp P (l ++ [o]).toArray Q i K' a w := by
  unfold wpOp at h ⊢
  have e1 : l.toArray[i]? = some l[i] := by simp [hi]
  have e2 : (l ++ [o]).toArray[i]? = some l[i] := by simp [List.getElem?_append_left hi, hi]
  rw [e1] at h
  rw [e2]
  dsimp only at h ⊢
  have hw := hg l[i] (by simp)
  rw [if_pos (wanted_free hw _)] at h ⊢
  rcases h with h | h
  · left
    have h := Oper.wp_mono hK h
    unfold Oper.wp at h ⊢
    generalize (execOp a.eval l[i]).run P w = r at h ⊢
    cases r with
    | ok n w' =>
      cases n <;> simp only [Oper.upon] at h ⊢
      all_goals first | exact h | exact Calls.mono h fun e w'' he => by cases e <;> exact he
    | halt x w' =>
      cases x <;> simp only [Oper.upon] at h ⊢
      all_goals exact h
  · exact .inr ⟨h.1, h.2⟩

theorem wpAny_last (hB : lastB l o = true) :
    ∀ (fuel : Nat) (listed : Array Bool) (a : Act) (w : World), listed.size = l.length → wpAny P .any l.toArray (QLast P (l ++ [o]).toArray o Q) fuel listed a w → wpAny P .any (l ++ [o]).toArray Q (fuel + 1) (listed.push false) a w := by
  simp only [lastB, Bool.and_eq_true, List.all_eq_true, List.mem_range] at hB
  obtain ⟨⟨⟨hg, hlt⟩, ho⟩, hs⟩ := hB
  have hon : ∀ (j : Nat) (x : Oper), l[j]? = some x → ∀ e ∈ x.after, e.on < j := fun j x hj e he => by
    have hjl : j < l.length := (List.getElem?_eq_some_iff.1 hj).1
    have := hlt j hjl
    rw [hj] at this
    have := Array.all_eq_true_iff_forall_mem.1 this e he
    simpa using this
  have hget : ∀ (L : Array Bool), L.size = l.length → ∀ i, i < l.length → ∀ d : Bool, (L.push false).getD i d = L.getD i d := fun L hL i hi d => by
    simp [Array.getD, hL, hi, Array.getElem_push, show i < l.length + 1 by omega]
  -- who is ready
  have hrd : ∀ (L : Array Bool), L.size = l.length → ∀ i, i ∈ Region.ready .any (l ++ [o]).toArray (L.push false) → i < l.length → i ∈ Region.ready .any l.toArray L := fun L hL i hi hil => by
    obtain ⟨h1, x, hx, h2⟩ := mem_ready.1 hi
    have hx' : l[i]? = some x := by simpa [List.getElem?_append_left hil] using hx
    refine mem_ready.2 ⟨by rw [hget L hL i hil] at h1; exact h1, x, by simpa using hx', fun e he hb => ?_⟩
    have := h2 e he hb
    rw [hget L hL _ (by have := hon i x hx' e he; omega)] at this
    exact this
  have hrl : ∀ (L : Array Bool), L.size = l.length → l.length ∈ Region.ready .any (l ++ [o]).toArray (L.push false) → ∀ i, i < l.length → L.getD i false = true := fun L hL hr i hi => by
    obtain ⟨h1, x, hx, h2⟩ := mem_ready.1 hr
    have hx' : x = o := by simpa using hx.symm
    subst hx'
    have := hs i hi
    obtain ⟨e, he, hb⟩ := Array.any_eq_true'.1 this
    simp only [Bool.and_eq_true, beq_iff_eq] at hb
    have := h2 e he hb.1
    rw [hb.2, hget L hL i hi] at this
    exact this
  have hnone : ∀ (L : Array Bool), L.size = l.length → Region.ready .any (l ++ [o]).toArray (L.push false) ≠ [] := fun L hL h0 => by
    -- the least that is not listed is ready
    have key : ∀ i, i ≤ l.length → ∀ j, j < i → L.getD j false = true := by
      intro i
      induction i with
      | zero => intro _ j hj; omega
      | succ i ih =>
        intro hi j hj
        rcases Nat.lt_or_ge j i with e | e
        · exact ih (by omega) j e
        · obtain rfl : j = i := by omega
          refine Classical.byContradiction fun hne => ?_
          have hil : j < l.length := by omega
          have : j ∈ Region.ready .any (l ++ [o]).toArray (L.push false) := by
            refine mem_ready.2 ⟨?_, l[j], by simp [List.getElem?_append_left hil, hil], fun e he hb => ?_⟩
            · rw [hget L hL j hil]
              have : j < L.size := by omega
              simp [Array.getD, this] at hne ⊢
              exact hne
            · have hlt := hon j l[j] (by simp [hil]) e he
              rw [hget L hL _ (by omega)]
              exact ih (by omega) _ hlt
          rw [h0] at this
          cases this
    have hr : l.length ∈ Region.ready .any (l ++ [o]).toArray (L.push false) := by
      refine mem_ready.2 ⟨by rw [← hL]; simp [Array.getD], o, by simp, fun e he hb => ?_⟩
      have hlt : e.on < l.length := by simpa using Array.all_eq_true_iff_forall_mem.1 ho e he
      rw [hget L hL _ hlt]
      exact key l.length (Nat.le_refl _) _ hlt
    rw [h0] at hr
    cases hr
  have hdone : ∀ (L : Array Bool), L.size = l.length → (∀ i, i < l.length → L.getD i false = true) → Region.ready .any (l ++ [o]).toArray ((L.push false).setIfInBounds l.length true) = [] := fun L hL hall => by
    rw [List.eq_nil_iff_forall_not_mem]
    intro i hi
    obtain ⟨h1, x, hx, _⟩ := mem_ready.1 hi
    have hil : i < l.length + 1 := by simpa using (Array.getElem?_eq_some_iff.1 hx).1
    rcases Nat.lt_or_ge i l.length with e | e
    · have := hall i e
      have hi2 : i < L.size := by omega
      simp [Array.getD, hi2] at this
      simp [Array.getD, hL, Array.getElem_setIfInBounds, Array.getElem_push, e, hil, this, show ¬ l.length = i by omega] at h1
    · obtain rfl : i = l.length := by omega
      simp [Array.getD, hL] at h1
  have hlast : ∀ (L : Array Bool) (fuel : Nat) (a : Act) (w : World), L.size = l.length → (∀ i, i < l.length → L.getD i false = true) → wpList P (l ++ [o]).toArray Q [o] a w → wpOp P (l ++ [o]).toArray Q l.length (wpAny P .any (l ++ [o]).toArray Q fuel ((L.push false).setIfInBounds l.length true)) a w := fun L fuel a w hL hall hq => by
    have hd := hdone L hL hall
    have hfin : ∀ a w, Q .normal a w → wpAny P .any (l ++ [o]).toArray Q fuel ((L.push false).setIfInBounds l.length true) a w := fun a w h => by
      cases fuel with
      | zero => exact ⟨hd, h⟩
      | succ f => exact ⟨fun _ => h, by rw [hd]; simp⟩
    unfold wpOp
    have e2 : (l ++ [o]).toArray[l.length]? = some o := by simp
    rw [e2]
    dsimp only
    have hw := hg o (by simp)
    rw [if_pos (wanted_free hw _)]
    unfold wpList at hq
    rw [if_pos (wanted_free hw _)] at hq
    rcases hq with hq | hq
    · exact .inl (Oper.wp_mono (fun a w h => hfin a w h) hq)
    · exact .inr hq
  intro fuel
  induction fuel with
  | zero =>
    intro listed a w hL h
    refine ⟨fun h0 => absurd h0 (hnone listed hL), fun i hi => ?_⟩
    have hil : i < l.length + 1 := by
      obtain ⟨_, x, hx, _⟩ := mem_ready.1 hi
      simpa using (Array.getElem?_eq_some_iff.1 hx).1
    rcases Nat.lt_or_ge i l.length with e | e
    · have := hrd listed hL i hi e
      rw [h.1] at this
      cases this
    · obtain rfl : i = l.length := by omega
      exact hlast listed 0 a w hL (hrl listed hL hi) h.2
  | succ fuel ih =>
    intro listed a w hL h
    refine ⟨fun h0 => absurd h0 (hnone listed hL), fun i hi => ?_⟩
    have hil : i < l.length + 1 := by
      obtain ⟨_, x, hx, _⟩ := mem_ready.1 hi
      simpa using (Array.getElem?_eq_some_iff.1 hx).1
    rcases Nat.lt_or_ge i l.length with e | e
    · refine wpOp_last hg e (fun a w k => ?_) (h.2 i (hrd listed hL i hi e))
      have := ih (listed.setIfInBounds i true) a w (by simpa using hL) k
      have he : (listed.setIfInBounds i true).push false = (listed.push false).setIfInBounds i true := by
        apply Array.ext_getElem?
        intro j
        simp only [Array.getElem?_push, Array.getElem?_setIfInBounds, Array.size_setIfInBounds, Array.size_push, hL]
        by_cases h1 : i = j
        · subst h1
          simp [e, show ¬ i = l.length by omega, show i < l.length + 1 by omega]
        · by_cases h2 : j = l.length
          · subst h2; simp [h1, show ¬ i = l.length by omega]
          · simp [h1, h2]
      rw [he] at this
      exact this
    · obtain rfl : i = l.length := by omega
      have hall := hrl listed hL hi
      refine hlast listed _ a w hL hall (h.1 ?_)
      rw [List.eq_nil_iff_forall_not_mem]
      intro j hj
      obtain ⟨h1, x, hx, _⟩ := mem_ready.1 hj
      have hjl : j < l.length := by simpa using (Array.getElem?_eq_some_iff.1 hx).1
      have := hall j hjl
      have hj2 : j < listed.size := by omega
      simp [Array.getD, hj2] at this h1
      rw [this] at h1
      cases h1

theorem wp_region_last {id : Nat} {S : World → Prop} {a : Act} {w : World} (l : List Oper) (o : Oper) (hm : P.follows .mixedOrders = true) (hB : lastB l o = true) (hS : S w.drew)
    (h : S w.drew → wpAnyH P .any l.toArray (QLast P (l ++ [o]).toArray o Q) S l.length (Array.replicate l.length false) a w.drew) : (Code.region id (l ++ [o]).toArray true).wp P Q a w := by
  refine wp_region_any hm ?_
  have h2 := wpAny_last hB l.length (Array.replicate l.length false) a w.drew (by simp) (wpAny_of_held _ _ _ _ (h hS))
  have e : (Array.replicate l.length false).push false = Array.replicate (l ++ [o]).toArray.size false := by simp [Array.replicate_succ]
  rw [e] at h2
  simpa using h2

/-- As a walk meets it: the operations as they stand; n: how many come before the last. -/
theorem wp_region_last2 {id : Nat} {S : World → Prop} {a : Act} {w : World} {ops : Array Oper} {o : Oper} (n : Nat) (ho : ops[n]? = some o) (hn : ops.size = n + 1) (hm : P.follows .mixedOrders = true) (hB : lastB (ops.toList.take n) o = true) (hS : S w.drew)
    (h : S w.drew → wpAnyH P .any (ops.toList.take n).toArray (QLast P ops o Q) S n (Array.replicate n false) a w.drew) : (Code.region id ops true).wp P Q a w := by
  have hl : (ops.toList.take n).length = n := by simp; omega
  have e : (ops.toList.take n ++ [o]).toArray = ops := by
    apply Array.ext_getElem?
    intro i
    rcases Nat.lt_or_ge i n with h1 | h1
    · simp [List.getElem?_append_left (show i < (ops.toList.take n).length by omega), List.getElem?_take, h1]
    · rcases Nat.lt_or_ge n i with h2 | h2
      · rw [Array.getElem?_eq_none (by simp; omega), Array.getElem?_eq_none (by omega)]
      · obtain rfl : i = n := by omega
        rw [ho]
        simp [List.getElem?_append_right (show (ops.toList.take i).length ≤ i by omega), hl]
  have h2 := wp_region_last (Q := Q) (id := id) (S := S) (a := a) (w := w) (ops.toList.take n) o hm hB hS
  rw [hl, e] at h2
  exact h2 h
end

theorem wpIn_region_held_round {P : Program} {id lr m : Nat} {Q : Exit → Act → World → Prop} {a : Act} {w : World} {l : List Oper} (S : World → Prop) (hm : P.follows .mixedOrders = true) (hd : noDefer l = true) (hQ : ¬ LetsOut Q)
    (h : wpAnyH P .any l.toArray Q S l.toArray.size (Array.replicate l.toArray.size false) a w.drew) : (Code.region id l.toArray true).wpIn (Fence.wide.inRound lr) m P Q a w :=
  wpIn_region_any hm (wpAnyIn_of_plain (noDefer_spec hd) hQ _ _ _ _ (wpAny_of_held _ _ _ _ h))
theorem wpIn_region_last_round {P : Program} {id lr m : Nat} {S : World → Prop} {Q : Exit → Act → World → Prop} {a : Act} {w : World} (l : List Oper) (o : Oper) (hm : P.follows .mixedOrders = true) (hd : noDefer (l ++ [o]) = true) (hB : lastB l o = true) (hQ : ¬ LetsOut Q) (hS : S w.drew)
    (h : S w.drew → wpAnyH P .any l.toArray (QLast P (l ++ [o]).toArray o Q) S l.length (Array.replicate l.length false) a w.drew) : (Code.region id (l ++ [o]).toArray true).wpIn (Fence.wide.inRound lr) m P Q a w := by
  have h2 := wpAny_last hB l.length (Array.replicate l.length false) a w.drew (by simp) (wpAny_of_held _ _ _ _ (h hS))
  have e : (Array.replicate l.length false).push false = Array.replicate (l ++ [o]).toArray.size false := by simp [Array.replicate_succ]
  have e2 : l.length + 1 = (l ++ [o]).toArray.size := by simp
  rw [e, e2] at h2
  exact wpIn_region_any hm (wpAnyIn_of_plain (noDefer_spec hd) hQ _ _ _ _ h2)

theorem ops_last {ops : Array Oper} {o : Oper} (n : Nat) (ho : ops[n]? = some o) (hn : ops.size = n + 1) : (ops.toList.take n).length = n ∧ (ops.toList.take n ++ [o]).toArray = ops := by
  have hl : (ops.toList.take n).length = n := by simp; omega
  refine ⟨hl, ?_⟩
  apply Array.ext_getElem?
  intro i
  rcases Nat.lt_or_ge i n with h1 | h1
  · simp [List.getElem?_append_left (show i < (ops.toList.take n).length by omega), List.getElem?_take, h1]
  · rcases Nat.lt_or_ge n i with h2 | h2
    · rw [Array.getElem?_eq_none (by simp; omega), Array.getElem?_eq_none (by omega)]
    · obtain rfl : i = n := by omega
      rw [ho]
      simp [List.getElem?_append_right (show (ops.toList.take i).length ≤ i by omega), hl]
/-- As a walk meets it, in a round. -/
theorem wpIn_region_last_round2 {P : Program} {id lr m : Nat} {S : World → Prop} {Q : Exit → Act → World → Prop} {a : Act} {w : World} {ops : Array Oper} {o : Oper} (n : Nat) (ho : ops[n]? = some o) (hn : ops.size = n + 1) (hm : P.follows .mixedOrders = true) (hd : noDefer ops.toList = true)
    (hB : lastB (ops.toList.take n) o = true) (hQ : ¬ LetsOut Q) (hS : S w.drew)
    (h : S w.drew → wpAnyH P .any (ops.toList.take n).toArray (QLast P ops o Q) S n (Array.replicate n false) a w.drew) : (Code.region id ops true).wpIn (Fence.wide.inRound lr) m P Q a w := by
  obtain ⟨hl, e⟩ := ops_last n ho hn
  have hd' : noDefer (ops.toList.take n ++ [o]) = true := by
    have : ops.toList.take n ++ [o] = ops.toList := by simpa using congrArg Array.toList e
    rw [this]; exact hd
  have h2 := wpIn_region_last_round (Q := Q) (id := id) (lr := lr) (m := m) (S := S) (a := a) (w := w) (ops.toList.take n) o hm hd' hB hQ hS
  rw [hl, e] at h2
  exact h2 h

/-- append of what a slice reads as, whether it has memory or not: in a region that draws its order. -/
theorem step_append_rd {P : Program} {w : World} {ops : Array Oper} {o : Oper} {a : Act} {K : Act → World → Prop} {Q : Exit → Act → World → Prop} {E : Prop} (hgd : o.guard = none) (s x : Operand) (t : TypeId)
    (ho : o.op = .call { callee := .builtin .append, args := #[s, x], argTypes := #[t, t] })
    (base : Nat) (e : TypeId) (i : TypeInfo) (z : Value) (size bytes : Nat) (ht : P.underlying t = some (.slice e)) (hi : P.info? e = some i) (hz : i.zero = some z)
    (hsize : i.size = size) (hby : i.bytes = bytes) (hzs : z.cells.size = size) (hsz : 0 < size)
    (v : Value) (n : Nat) (xs : List Value) (hs : a.eval s = v) (hown : w.ownsRow base e size v n xs)
    (A : Option Addr) (m c : Nat) (B : Nat) (news : List Value) (hx : a.eval x = .slice A m c) (hrd : Rd w B size A m news) (h1 : ∀ u ∈ news, u.oneCell' = true)
    (h63 : n + m ≤ maxLen) (hbytes : (n + m) * bytes ≤ 140737488355328) (hbase : base ≤ w.heap.size)
    (h : ∀ v' w', w'.ownsRow base e size v' (n + m) (xs ++ news) → w.grownBy w' v.ownBlock → (v'.ownBlock = v.ownBlock ∨ v'.ownBlock = some w.heap.size) → K (a.put o.dst v') w') :
    if Region.wanted o (yielded ops a.tmps) = true then Oper.wp P o a w K Q else E := by
  have hw : Region.wanted o (yielded ops a.tmps) = true := by simp [Region.wanted, hgd]
  rw [if_pos hw]
  have main : ∀ (ad : Addr), A = some ad → (∀ j u, news[j]? = some u → w.cell? (ad.add j) = some u) → Oper.wp P o a w K Q := fun ad hA hn => by
    subst hA
    obtain ⟨v', w', hr, h2, h3, h4, h5⟩ := run_append_own_at (P := P) w base t o.type e i z size bytes ht hi hz hsize hby hzs hsz v n xs hown ad m c news hrd.1 hn h1 h63 hbytes hbase
    unfold Oper.wp execOp
    simp only [ho, resolve, invoke, builtin, Sem.run_bind, Sem.run_pure, Result.andThen_ok, List.map_toArray, List.map_cons, List.map_nil, hs, hx, hr]
    exact h v' w' h2 h3 h5
  by_cases hm : m = 0
  · subst hm
    have hn : news = [] := List.eq_nil_of_length_eq_zero (by have := hrd.1; omega)
    subst hn
    rcases hA : A with _ | ad
    · subst hA
      have hrun : (Builtin.append_ #[t, t] o.type #[v, .slice none 0 c]).run P w = .ok v w := by
        rcases hown.2 with ⟨rfl, rfl⟩ | ⟨g, cap, cur, rfl, _, _, hnc, _⟩
        · simp [Builtin.append_, run_underlying ht, sizeOf, typeInfo, hi, Builtin.lenOf, Builtin.firstCells]
        · simp [Builtin.append_, run_underlying ht, sizeOf, typeInfo, hi, Builtin.lenOf, Builtin.firstCells, hnc, storeCells]
      have hk := h v w (by simpa using hown) ⟨rfl, rfl, rfl, Nat.le_refl _, fun _ _ _ => rfl⟩ (.inl rfl)
      unfold Oper.wp
      simp [execOp, ho, resolve, invoke, builtin, hs, hx, hrun, Result.andThen]
      exact hk
    · exact main ad hA (fun j u hj => by simp at hj)
  · obtain ⟨b, off, hA, hb, hc⟩ := hrd.2 (by omega)
    refine main _ hA (fun j u hj => ?_)
    have hjl : j < news.length := (List.getElem?_eq_some_iff.1 hj).1
    rw [hrd.1] at hjl
    rw [show (⟨b, off, none⟩ : Addr).add j = ⟨b, off + j, none⟩ from by unfold Addr.add; split <;> simp_all, hc j hjl, hj]

end Go.Proofs.YtncdeogpmodoaaaGreatDoor
