/-
  What the claim needs: contracts.
-/
import Derived.StillTail
import Derived.Defers
import Derived.Recover
import Derived.Test.YtccikcpcfdjobaaGreatDoorBs05
set_option linter.unusedVariables false
set_option linter.unusedSimpArgs false
set_option maxHeartbeats 8000000
set_option maxRecDepth 100000
namespace Go.Proofs.YtccikcpcfdjobaaGreatDoor
section
open Go.RowKit Go.Shelf
theorem y6X {F : Fence} {n : Nat} {P : Program} {ops : Array Oper} {Q : Exit -> Act -> World -> Prop} {i l : Nat} {K K' : Act -> World -> Prop} {a : Act} {w : World} (hro : F.round = none) (hd : ∀ o ∈ ops, ∀ c, o.op ≠ .defer c)
    (hK : ∀ a w, K a w -> K' a w) (h : wpOpIn F n P ops Q i K a w) : wpOpIn (F.inRound l) n P ops Q i K' a w := by
  have h := wpOpIn_mono hK h;unfold wpOpIn at *;cases ho : ops[i]? with
  | none => simpa [ho] using h
  | some o =>
    simp only [ho] at h ⊢;split
    · rename_i hw
      simp only [hw, if_true] at h;unfold Oper.wpIn at *;refine ⟨h.1, ?_⟩;have h2 := h.2;rw [Oper.semAt_eq _ _ _ (hd o (Array.mem_of_getElem? ho))] at h2 ⊢;exact h2
    rename_i hw;simp only [hw] at h;exact h
theorem y2P {F : Fence} {n : Nat} {P : Program} {md : Region.Mode} {ops : Array Oper} {Q : Exit -> Act -> World -> Prop} {l : Nat} (hro : F.round = none) (hd : ∀ o ∈ ops, ∀ c, o.op ≠ .defer c) :
  ∀ (fuel : Nat) (listed : Array Bool) (a : Act) (w : World), wpAnyIn F n P md ops Q fuel listed a w -> wpAnyIn (F.inRound l) n P md ops Q fuel listed a w
 | 0, _, _, _, h => h
 | fuel + 1, _, _, _, h => ⟨h.1, fun i hi => y6X hro hd (fun a w h => y2P hro hd fuel _ a w h) (h.2 i hi)⟩
def noDefer (l : List Oper) : Bool := l.all fun o => match o.op with | .defer _ => false | _ => true
theorem y2i {l : List Oper} (h : noDefer l = true) : ∀ o ∈ l.toArray, ∀ c, o.op ≠ .defer c := fun o ho c e => by
 have := List.all_eq_true.1 h o (by simpa using ho);rw [e] at this;cases this
theorem y0p {F : Fence} {n : Nat} {P : Program} {id lr : Nat} {Q : Exit -> Act -> World -> Prop} {a : Act} {w : World} {l : List Oper} (hro : F.round = none) (hm : P.follows .mixedOrders = true) (hd : noDefer l = true) (hB : Region.lexB .any l.toArray = true)
  (h : wpQuietIn F n P l.toArray (fun w' => ∃ n, w' = w.drewN n) (fun a' => ∀ w', (∃ n, w' = w.drewN n) -> Q .normal a' w') l a) : (Code.region id l.toArray true).wpIn (F.inRound lr) n P Q a w := by
 simp only [Region.lexB, Bool.and_eq_true] at hB;refine wpIn_region_any hm (y2P hro (y2i hd) _ _ _ _ (wpAnyIn_of_quiet (C := fun w' => ∃ n, w' = w.drewN n) (Q := fun a' => ∀ w', (∃ n, w' = w.drewN n) -> Q .normal a' w') hro (fun _ w' hw' h => h w' hw') _ _ _ _ ⟨1, rfl⟩ ?_));have := wpAnyQIn_lex (F := F) (n := n) (C := fun w' => ∃ n, w' = w.drewN n) (md := .any) hB.1 l 0 (Array.replicate l.toArray.size false) a (by simp) (by simpa using hB.2) h;simpa using this
def mark (D : Nat) : Deferred := { target := .collected D, args := #[] }
theorem y16 {F : Fence} {n : Nat} {P : Program} {fn : Func} {tmps : Array Value} {R : Ending -> World -> Prop} : ∀ (Ds : List Nat) (w : World), Ds.Nodup -> (∀ D ∈ Ds, w.heap[D]? = some (.deferred (some []))) ->
    (∀ w', KeepX w.heap.size (· ∈ Ds) w w' -> LeavesIn F n P fn tmps R [] .returning w') -> LeavesInM F n P fn tmps R (Ds.map mark) .returning w
  | [], w, _, _, h => h w (KeepX.refl _ _ _)
  | D :: Ds, w, hn, hD, h => by
    have hK := hD D (by simp);obtain ⟨hnot, hn'⟩ := List.nodup_cons.1 hn;have hg := grownBy_putObj' w D (.deferred none);refine ⟨by simp, .inl ⟨D, _, rfl, run_takeDeferred hK, ?_⟩⟩;refine y16 Ds _ hn' (fun E hE => ?_) (fun w' hw => h w' ?_)
    · have hEl := (Array.getElem?_eq_some_iff.1 (hD E (by simp [hE]))).1
      rw [hg.block E hEl (fun e => by cases e; exact hnot hE)];exact hD E (by simp [hE])
    have h1 : KeepX w.heap.size (· ∈ D :: Ds) w (w.putObj D (.deferred none)) := .of_grown hg (Nat.le_refl _) (fun k e _ => by cases e; simp);exact h1.trans (hw.mono (by simp [World.putObj]) (fun k _ hk => by simp [hk]))
theorem y17 {F : Fence} {n : Nat} {P : Program} {fn : Func} {tmps : Array Value} {R : Ending -> World -> Prop} {chain : List PanicEntry} : ∀ (Ds : List Nat) (w : World), Ds.Nodup -> (∀ D ∈ Ds, w.heap[D]? = some (.deferred (some []))) ->
    (∀ w', KeepX w.heap.size (· ∈ Ds) w w' -> R (.panicked chain) w') -> LeavesInM F n P fn tmps R (Ds.map mark) (.panicking chain) w
  | [], w, _, _, h => h w (KeepX.refl _ _ _)
  | D :: Ds, w, hn, hD, h => by
    have hK := hD D (by simp);obtain ⟨hnot, hn'⟩ := List.nodup_cons.1 hn;have hg := grownBy_putObj' w D (.deferred none);refine ⟨by simp, .inl ⟨D, _, rfl, run_takeDeferred hK, ?_⟩⟩;refine y17 Ds _ hn' (fun E hE => ?_) (fun w' hw => h w' ?_)
    · have hEl := (Array.getElem?_eq_some_iff.1 (hD E (by simp [hE]))).1
      rw [hg.block E hEl (fun e => by cases e; exact hnot hE)];exact hD E (by simp [hE])
    have h1 : KeepX w.heap.size (· ∈ D :: Ds) w (w.putObj D (.deferred none)) := .of_grown hg (Nat.le_refl _) (fun k e _ => by cases e; simp);exact h1.trans (hw.mono (by simp [World.putObj]) (fun k _ hk => by simp [hk]))
theorem yAp {P : Program} {o : Oper} {a : Act} {next : Act -> World -> Prop} {Q : Exit -> Act -> World -> Prop} {r : Result Next} {n l : Nat} (h : o.upon P a next Q r) : o.uponIn (Fence.wide.inRound l) n P a next Q r := by
  have hd : (Fence.wide.inRound l).depth.isSome = true -> 1 <= n := fun h => by cases h
  cases r with
  | ok x w =>
    cases x with
    | value v => exact h
    | skip => exact h
    | defer d => exact h
    | enter f args => exact ⟨hd, callsIn_wide.2 h⟩
    | row row args => exact ⟨hd, fun c cs _ => let ⟨v, w', hr, s⟩ := h c cs; ⟨v, w', hr, stepsIn_wide.2 s⟩⟩
    | _ => exact absurd h (by simp [Oper.upon])
  | halt x w =>
    cases x with
    | panic v => exact h
    | _ => exact absurd h (by simp [Oper.upon])
theorem y3d {P : Program} {ops : Array Oper} {Q : Exit -> Act -> World -> Prop} {i n l : Nat} {K K' : Act -> World -> Prop} {a : Act} {w : World} (hd : ∀ o ∈ ops, ∀ c, o.op ≠ .defer c) (hQ : ¬ LetsOut Q)
    (hK : ∀ a w, K a w -> K' a w) (h : wpOp P ops Q i K a w) : wpOpIn (Fence.wide.inRound l) n P ops Q i K' a w := by
  unfold wpOp at h;unfold wpOpIn;cases ho : ops[i]? with
  | none =>
    simp only [ho] at h ⊢;exact hK _ _ h
  | some o =>
    simp only [ho] at h ⊢;split
    · rename_i hw
      simp only [hw, if_true] at h;rcases h with h | h
      · have h := Oper.wp_mono hK h
        unfold Oper.wp at h;unfold Oper.wpIn;refine ⟨fun _ _ => trivial, ?_⟩;rw [Oper.semAt_eq _ _ _ (hd o (Array.mem_of_getElem? ho))];exact yAp h
      exact absurd h.2 hQ
    rename_i hw;simp only [hw] at h;exact ⟨fun _ _ => trivial, hK _ _ h⟩
theorem y1a {P : Program} {md : Region.Mode} {ops : Array Oper} {Q : Exit -> Act -> World -> Prop} {n l : Nat} (hd : ∀ o ∈ ops, ∀ c, o.op ≠ .defer c) (hQ : ¬ LetsOut Q) :
  ∀ (fuel : Nat) (listed : Array Bool) (a : Act) (w : World), wpAny P md ops Q fuel listed a w -> wpAnyIn (Fence.wide.inRound l) n P md ops Q fuel listed a w
 | 0, _, _, _, h => h
 | fuel + 1, _, _, _, h => ⟨h.1, fun i hi => y3d hd hQ (fun a w h => y1a hd hQ fuel _ a w h) (h.2 i hi)⟩
def QLast (P : Program) (ops : Array Oper) (o : Oper) (Q : Exit -> Act -> World -> Prop) : Exit -> Act -> World -> Prop
 | .normal, a, w => wpList P ops Q [o] a w
 | .panic c, a, w => Q (.panic c) a w
 | .outgrown, a, w => Q .outgrown a w
 | _, _, _ => False
def lastB (l : List Oper) (o : Oper) : Bool :=
 (l ++ [o]).all (fun x => x.guard.isNone) &&
 (List.range l.length).all (fun j => match l[j]? with | some x => x.after.all (fun e => decide (e.on < j)) | none => true) &&
 o.after.all (fun e => decide (e.on < l.length)) &&
 (List.range l.length).all (fun i => o.after.any (fun e => Region.binds .any e && e.on == i))
section
variable {P : Program} {Q : Exit -> Act -> World -> Prop} {l : List Oper} {o : Oper}
theorem y15 {x : Oper} (h : x.guard.isNone = true) (f : Nat -> Option Bool) : Region.wanted x f = true := by
 unfold Region.wanted;cases hg : x.guard with
 | none => rfl
 | some g => rw [hg] at h; cases h
theorem y6Y {ops : Array Oper} (hg : ∀ x ∈ l ++ [o], x.guard.isNone = true) {i : Nat} (hi : i < l.length) {K K' : Act -> World -> Prop} (hK : ∀ a w, K a w -> K' a w) {a : Act} {w : World}
    (h : wpOp P l.toArray (QLast P ops o Q) i K a w) : wpOp P (l ++ [o]).toArray Q i K' a w := by
  unfold wpOp at h ⊢;have e1 : l.toArray[i]? = some l[i] := by simp [hi]
  have e2 : (l ++ [o]).toArray[i]? = some l[i] := by simp [List.getElem?_append_left hi, hi]
  rw [e1] at h;rw [e2];dsimp only at h ⊢;have hw := hg l[i] (by simp);rw [if_pos (y15 hw _)] at h ⊢;rcases h with h | h
  · left
    have h := Oper.wp_mono hK h;unfold Oper.wp at h ⊢
    generalize (execOp a.eval l[i]).run P w = r at h ⊢
    cases r with
    | ok n w' =>
      cases n <;> simp only [Oper.upon] at h ⊢
      all_goals first | exact h | exact Calls.mono h fun e w'' he => by cases e <;> exact he
    | halt x w' =>
      cases x <;> simp only [Oper.upon] at h ⊢
      all_goals exact h
  exact .inr ⟨h.1, h.2⟩
theorem y4e (hB : lastB l o = true) :
    ∀ (fuel : Nat) (listed : Array Bool) (a : Act) (w : World), listed.size = l.length -> wpAny P .any l.toArray (QLast P (l ++ [o]).toArray o Q) fuel listed a w -> wpAny P .any (l ++ [o]).toArray Q (fuel + 1) (listed.push false) a w := by
  simp only [lastB, Bool.and_eq_true, List.all_eq_true, List.mem_range] at hB;obtain ⟨⟨⟨hg, hlt⟩, ho⟩, hs⟩ := hB;have hon : ∀ (j : Nat) (x : Oper), l[j]? = some x -> ∀ e ∈ x.after, e.on < j := fun j x hj e he => by
    have hjl : j < l.length := (List.getElem?_eq_some_iff.1 hj).1;have := hlt j hjl;rw [hj] at this;have := Array.all_eq_true_iff_forall_mem.1 this e he;simpa using this
  have hget : ∀ (L : Array Bool), L.size = l.length -> ∀ i, i < l.length -> ∀ d : Bool, (L.push false).getD i d = L.getD i d := fun L hL i hi d => by
    simp [Array.getD, hL, hi, Array.getElem_push, show i < l.length + 1 by omega]
  -- who is ready
  have hrd : ∀ (L : Array Bool), L.size = l.length -> ∀ i, i ∈ Region.ready .any (l ++ [o]).toArray (L.push false) -> i < l.length -> i ∈ Region.ready .any l.toArray L := fun L hL i hi hil => by
    obtain ⟨h1, x, hx, h2⟩ := mem_ready.1 hi;have hx' : l[i]? = some x := by simpa [List.getElem?_append_left hil] using hx
    refine mem_ready.2 ⟨by rw [hget L hL i hil] at h1; exact h1, x, by simpa using hx', fun e he hb => ?_⟩;have := h2 e he hb;rw [hget L hL _ (by have := hon i x hx' e he; omega)] at this;exact this
  have hrl : ∀ (L : Array Bool), L.size = l.length -> l.length ∈ Region.ready .any (l ++ [o]).toArray (L.push false) -> ∀ i, i < l.length -> L.getD i false = true := fun L hL hr i hi => by
    obtain ⟨h1, x, hx, h2⟩ := mem_ready.1 hr;have hx' : x = o := by simpa using hx.symm
    subst hx';have := hs i hi;obtain ⟨e, he, hb⟩ := Array.any_eq_true'.1 this;simp only [Bool.and_eq_true, beq_iff_eq] at hb;have := h2 e he hb.1;rw [hb.2, hget L hL i hi] at this;exact this
  have hnone : ∀ (L : Array Bool), L.size = l.length -> Region.ready .any (l ++ [o]).toArray (L.push false) ≠ [] := fun L hL h0 => by
    -- the least that is not listed is ready
    have key : ∀ i, i <= l.length -> ∀ j, j < i -> L.getD j false = true := by
      intro i
      induction i with
      | zero => intro _ j hj; omega
      | succ i ih =>
        intro hi j hj;rcases Nat.lt_or_ge j i with e | e
        · exact ih (by omega) j e
        obtain rfl : j = i := by omega
        refine Classical.byContradiction fun hne => ?_;have hil : j < l.length := by omega
        have : j ∈ Region.ready .any (l ++ [o]).toArray (L.push false) := by
          refine mem_ready.2 ⟨?_, l[j], by simp [List.getElem?_append_left hil, hil], fun e he hb => ?_⟩
          · rw [hget L hL j hil]
            have : j < L.size := by omega
            simp [Array.getD, this] at hne ⊢;exact hne
          have hlt := hon j l[j] (by simp [hil]) e he;rw [hget L hL _ (by omega)];exact ih (by omega) _ hlt
        rw [h0] at this;cases this
    have hr : l.length ∈ Region.ready .any (l ++ [o]).toArray (L.push false) := by
      refine mem_ready.2 ⟨by rw [<- hL]; simp [Array.getD], o, by simp, fun e he hb => ?_⟩;have hlt : e.on < l.length := by simpa using Array.all_eq_true_iff_forall_mem.1 ho e he
      rw [hget L hL _ hlt];exact key l.length (Nat.le_refl _) _ hlt
    rw [h0] at hr;cases hr
  have hdone : ∀ (L : Array Bool), L.size = l.length -> (∀ i, i < l.length -> L.getD i false = true) -> Region.ready .any (l ++ [o]).toArray ((L.push false).setIfInBounds l.length true) = [] := fun L hL hall => by
    rw [List.eq_nil_iff_forall_not_mem];intro i hi;obtain ⟨h1, x, hx, _⟩ := mem_ready.1 hi;have hil : i < l.length + 1 := by simpa using (Array.getElem?_eq_some_iff.1 hx).1
    rcases Nat.lt_or_ge i l.length with e | e
    · have := hall i e
      have hi2 : i < L.size := by omega
      simp [Array.getD, hi2] at this;simp [Array.getD, hL, Array.getElem_setIfInBounds, Array.getElem_push, e, hil, this, show ¬ l.length = i by omega] at h1
    obtain rfl : i = l.length := by omega
    simp [Array.getD, hL] at h1
  have hlast : ∀ (L : Array Bool) (fuel : Nat) (a : Act) (w : World), L.size = l.length -> (∀ i, i < l.length -> L.getD i false = true) -> wpList P (l ++ [o]).toArray Q [o] a w -> wpOp P (l ++ [o]).toArray Q l.length (wpAny P .any (l ++ [o]).toArray Q fuel ((L.push false).setIfInBounds l.length true)) a w := fun L fuel a w hL hall hq => by
    have hd := hdone L hL hall;have hfin : ∀ a w, Q .normal a w -> wpAny P .any (l ++ [o]).toArray Q fuel ((L.push false).setIfInBounds l.length true) a w := fun a w h => by
      cases fuel with
      | zero => exact ⟨hd, h⟩
      | succ f => exact ⟨fun _ => h, by rw [hd]; simp⟩
    unfold wpOp;have e2 : (l ++ [o]).toArray[l.length]? = some o := by simp
    rw [e2];dsimp only;have hw := hg o (by simp);rw [if_pos (y15 hw _)];unfold wpList at hq;rw [if_pos (y15 hw _)] at hq;rcases hq with hq | hq
    · exact .inl (Oper.wp_mono (fun a w h => hfin a w h) hq)
    exact .inr hq
  intro fuel
  induction fuel with
  | zero =>
    intro listed a w hL h;refine ⟨fun h0 => absurd h0 (hnone listed hL), fun i hi => ?_⟩;have hil : i < l.length + 1 := by
      obtain ⟨_, x, hx, _⟩ := mem_ready.1 hi;simpa using (Array.getElem?_eq_some_iff.1 hx).1
    rcases Nat.lt_or_ge i l.length with e | e
    · have := hrd listed hL i hi e
      rw [h.1] at this;cases this
    obtain rfl : i = l.length := by omega
    exact hlast listed 0 a w hL (hrl listed hL hi) h.2
  | succ fuel ih =>
    intro listed a w hL h;refine ⟨fun h0 => absurd h0 (hnone listed hL), fun i hi => ?_⟩;have hil : i < l.length + 1 := by
      obtain ⟨_, x, hx, _⟩ := mem_ready.1 hi;simpa using (Array.getElem?_eq_some_iff.1 hx).1
    rcases Nat.lt_or_ge i l.length with e | e
    · refine y6Y hg e (fun a w k => ?_) (h.2 i (hrd listed hL i hi e))
      have := ih (listed.setIfInBounds i true) a w (by simpa using hL) k;have he : (listed.setIfInBounds i true).push false = (listed.push false).setIfInBounds i true := by
        apply Array.ext_getElem?;intro j;simp only [Array.getElem?_push, Array.getElem?_setIfInBounds, Array.size_setIfInBounds, Array.size_push, hL];by_cases h1 : i = j
        · subst h1
          simp [e, show ¬ i = l.length by omega, show i < l.length + 1 by omega]
        by_cases h2 : j = l.length
        · subst h2; simp [h1, show ¬ i = l.length by omega]
        simp [h1, h2]
      rw [he] at this;exact this
    obtain rfl : i = l.length := by omega
    have hall := hrl listed hL hi;refine hlast listed _ a w hL hall (h.1 ?_);rw [List.eq_nil_iff_forall_not_mem];intro j hj;obtain ⟨h1, x, hx, _⟩ := mem_ready.1 hj;have hjl : j < l.length := by simpa using (Array.getElem?_eq_some_iff.1 hx).1
    have := hall j hjl;have hj2 : j < listed.size := by omega
    simp [Array.getD, hj2] at this h1;rw [this] at h1;cases h1
theorem y4H {id : Nat} {S : World -> Prop} {a : Act} {w : World} (l : List Oper) (o : Oper) (hm : P.follows .mixedOrders = true) (hB : lastB l o = true) (hS : S w.drew)
  (h : S w.drew -> wpAnyH P .any l.toArray (QLast P (l ++ [o]).toArray o Q) S l.length (Array.replicate l.length false) a w.drew) : (Code.region id (l ++ [o]).toArray true).wp P Q a w := by
 refine wp_region_any hm ?_;have h2 := y4e hB l.length (Array.replicate l.length false) a w.drew (by simp) (wpAny_of_held _ _ _ _ (h hS));have e : (Array.replicate l.length false).push false = Array.replicate (l ++ [o]).toArray.size false := by simp [Array.replicate_succ]
 rw [e] at h2;simpa using h2
theorem yAt {id : Nat} {S : World -> Prop} {a : Act} {w : World} {ops : Array Oper} {o : Oper} (n : Nat) (ho : ops[n]? = some o) (hn : ops.size = n + 1) (hm : P.follows .mixedOrders = true) (hB : lastB (ops.toList.take n) o = true) (hS : S w.drew)
  (h : S w.drew -> wpAnyH P .any (ops.toList.take n).toArray (QLast P ops o Q) S n (Array.replicate n false) a w.drew) : (Code.region id ops true).wp P Q a w := by
 have hl : (ops.toList.take n).length = n := by simp; omega
 have e : (ops.toList.take n ++ [o]).toArray = ops := by
  apply Array.ext_getElem?;intro i;rcases Nat.lt_or_ge i n with h1 | h1
  ·simp [List.getElem?_append_left (show i < (ops.toList.take n).length by omega), List.getElem?_take, h1]
  rcases Nat.lt_or_ge n i with h2 | h2
  ·rw [Array.getElem?_eq_none (by simp; omega), Array.getElem?_eq_none (by omega)]
  obtain rfl : i = n := by omega
  rw [ho];simp [List.getElem?_append_right (show (ops.toList.take i).length <= i by omega), hl]
 have h2 := y4H (Q := Q) (id := id) (S := S) (a := a) (w := w) (ops.toList.take n) o hm hB hS;rw [hl, e] at h2;exact h2 h
end
theorem y1b {P : Program} {id lr m : Nat} {S : World -> Prop} {Q : Exit -> Act -> World -> Prop} {a : Act} {w : World} (l : List Oper) (o : Oper) (hm : P.follows .mixedOrders = true) (hd : noDefer (l ++ [o]) = true) (hB : lastB l o = true) (hQ : ¬ LetsOut Q) (hS : S w.drew)
  (h : S w.drew -> wpAnyH P .any l.toArray (QLast P (l ++ [o]).toArray o Q) S l.length (Array.replicate l.length false) a w.drew) : (Code.region id (l ++ [o]).toArray true).wpIn (Fence.wide.inRound lr) m P Q a w := by
 have h2 := y4e hB l.length (Array.replicate l.length false) a w.drew (by simp) (wpAny_of_held _ _ _ _ (h hS));have e : (Array.replicate l.length false).push false = Array.replicate (l ++ [o]).toArray.size false := by simp [Array.replicate_succ]
 have e2 : l.length + 1 = (l ++ [o]).toArray.size := by simp
 rw [e, e2] at h2;exact wpIn_region_any hm (y1a (y2i hd) hQ _ _ _ _ h2)
theorem yBL {ops : Array Oper} {o : Oper} (n : Nat) (ho : ops[n]? = some o) (hn : ops.size = n + 1) : (ops.toList.take n).length = n /\ (ops.toList.take n ++ [o]).toArray = ops := by
 have hl : (ops.toList.take n).length = n := by simp; omega
 refine ⟨hl, ?_⟩;apply Array.ext_getElem?;intro i;rcases Nat.lt_or_ge i n with h1 | h1
 ·simp [List.getElem?_append_left (show i < (ops.toList.take n).length by omega), List.getElem?_take, h1]
 rcases Nat.lt_or_ge n i with h2 | h2
 ·rw [Array.getElem?_eq_none (by simp; omega), Array.getElem?_eq_none (by omega)]
 obtain rfl : i = n := by omega
 rw [ho];simp [List.getElem?_append_right (show (ops.toList.take i).length <= i by omega), hl]
theorem y1W {P : Program} {id lr m : Nat} {S : World -> Prop} {Q : Exit -> Act -> World -> Prop} {a : Act} {w : World} {ops : Array Oper} {o : Oper} (n : Nat) (ho : ops[n]? = some o) (hn : ops.size = n + 1) (hm : P.follows .mixedOrders = true) (hd : noDefer ops.toList = true)
  (hB : lastB (ops.toList.take n) o = true) (hQ : ¬ LetsOut Q) (hS : S w.drew)
  (h : S w.drew -> wpAnyH P .any (ops.toList.take n).toArray (QLast P ops o Q) S n (Array.replicate n false) a w.drew) : (Code.region id ops true).wpIn (Fence.wide.inRound lr) m P Q a w := by
 obtain ⟨hl, e⟩ := yBL n ho hn;have hd' : noDefer (ops.toList.take n ++ [o]) = true := by
  have : ops.toList.take n ++ [o] = ops.toList := by simpa using congrArg Array.toList e
  rw [this]; exact hd
 have h2 := y1b (Q := Q) (id := id) (lr := lr) (m := m) (S := S) (a := a) (w := w) (ops.toList.take n) o hm hd' hB hQ hS;rw [hl, e] at h2;exact h2 h
theorem y1B {P : Program} {w : World} {ops : Array Oper} {o : Oper} {a : Act} {K : Act -> World -> Prop} {Q : Exit -> Act -> World -> Prop} {E : Prop} (hgd : o.guard = none) (s x : Operand) (t : TypeId)
  (ho : o.op = .call { callee := .builtin .append, args := #[s, x], argTypes := #[t, t] })
  (base : Nat) (e : TypeId) (i : TypeInfo) (z : Value) (size bytes : Nat) (ht : P.underlying t = some (.slice e)) (hi : P.info? e = some i) (hz : i.zero = some z)
  (hsize : i.size = size) (hby : i.bytes = bytes) (hzs : z.cells.size = size) (hsz : 0 < size)
  (v : Value) (n : Nat) (xs : List Value) (hs : a.eval s = v) (hown : w.ownsRow base e size v n xs)
  (A : Option Addr) (m c : Nat) (B : Nat) (news : List Value) (hx : a.eval x = .slice A m c) (hrd : Rd w B size A m news) (h1 : ∀ u ∈ news, u.oneCell' = true)
  (h63 : n + m <= maxLen) (hbytes : (n + m) * bytes <= 140737488355328) (hbase : base <= w.heap.size)
  (h : ∀ v' w', w'.ownsRow base e size v' (n + m) (xs ++ news) -> w.grownBy w' v.ownBlock -> (v'.ownBlock = v.ownBlock ∨ v'.ownBlock = some w.heap.size) -> K (a.put o.dst v') w') :
  if Region.wanted o (yielded ops a.tmps) = true then Oper.wp P o a w K Q else E := by
 have hw : Region.wanted o (yielded ops a.tmps) = true := by simp [Region.wanted, hgd]
 rw [if_pos hw];have main : ∀ (ad : Addr), A = some ad -> (∀ j u, news[j]? = some u -> w.cell? (ad.add j) = some u) -> Oper.wp P o a w K Q := fun ad hA hn => by
  subst hA;obtain ⟨v', w', hr, h2, h3, h4, h5⟩ := run_append_own_at (P := P) w base t o.type e i z size bytes ht hi hz hsize hby hzs hsz v n xs hown ad m c news hrd.1 hn h1 h63 hbytes hbase;unfold Oper.wp execOp;simp only [ho, resolve, invoke, builtin, Sem.run_bind, Sem.run_pure, Result.andThen_ok, List.map_toArray, List.map_cons, List.map_nil, hs, hx, hr];exact h v' w' h2 h3 h5
 by_cases hm : m = 0
 ·subst hm;have hn : news = [] := List.eq_nil_of_length_eq_zero (by have := hrd.1; omega);subst hn;rcases hA : A with _ | ad
  ·subst hA;have hrun : (Builtin.append_ #[t, t] o.type #[v, .slice none 0 c]).run P w = .ok v w := by
    rcases hown.2 with ⟨rfl, rfl⟩ | ⟨g, cap, cur, rfl, _, _, hnc, _⟩
    ·simp [Builtin.append_, run_underlying ht, sizeOf, typeInfo, hi, Builtin.lenOf, Builtin.firstCells]
    simp [Builtin.append_, run_underlying ht, sizeOf, typeInfo, hi, Builtin.lenOf, Builtin.firstCells, hnc, storeCells]
   have hk := h v w (by simpa using hown) ⟨rfl, rfl, rfl, Nat.le_refl _, fun _ _ _ => rfl⟩ (.inl rfl);unfold Oper.wp;simp [execOp, ho, resolve, invoke, builtin, hs, hx, hrun, Result.andThen];exact hk
  exact main ad hA (fun j u hj => by simp at hj)
 obtain ⟨b, off, hA, hb, hc⟩ := hrd.2 (by omega);refine main _ hA (fun j u hj => ?_);have hjl : j < news.length := (List.getElem?_eq_some_iff.1 hj).1;rw [hrd.1] at hjl;rw [show (⟨b, off, none⟩ : Addr).add j = ⟨b, off + j, none⟩ from by unfold Addr.add; split <;> simp_all, hc j hjl, hj]
end

section
open Go.RowKit Go.Shelf
attribute [local go_sem] Oper.semAt_some
theorem yD5 : (Tryz.prog.info? 9).map (fun i => (i.zero, i.size, i.bytes)) = some (some (.string ByteArray.empty), 1, 16) := by kernel_rfl
def CntI (w : World) (n : Int) (pre : List Cs.Un) (W : World) : Prop :=
 ∃ v, Bk W w.heap.size 3 #[.int .i64 (Cs.restF pre n)] /\ Bk W (w.heap.size + 1) 23 #[v] /\ W.ownsRow (w.heap.size + 2) 9 1 v (Cs.wordsF pre n).length (wcells (Cs.wordsF pre n)) /\ Below w.heap.size w W
theorem y1D {W W' : World} {row : Option Nat} {g : Nat} {t : TypeId} {cs : Array Value} (h : Bk W g t cs) (hg : W.grownBy W' row) (hr : ∀ r, row = some r -> ∃ o : Obj, W.heap[r]? = some o /\ o.isCells = false) : Bk W' g t cs := by
 refine (hg.block g h.lt (fun e => ?_)).trans h;obtain ⟨o, ho, hc⟩ := hr g e.symm;have h' : W.heap[g]? = some (.cells cs t (0, 0)) := h;rw [ho] at h';cases h';cases hc
theorem y65 {W W' : World} {row : Option Nat} {base e size : Nat} {v : Value} {n : Nat} {xs : List Value} (h : W.ownsRow base e size v n xs) (hg : W.grownBy W' row) (hr : ∀ r, row = some r -> ∃ o : Obj, W.heap[r]? = some o /\ o.isCells = false) : W'.ownsRow base e size v n xs := by
 refine h.kept hg ?_;rcases hb : v.ownBlock with _ | g
 ·exact .inl rfl
 refine .inr fun e => ?_;obtain ⟨o, ho, hc⟩ := hr g e.symm;rcases h.2 with ⟨rfl, _⟩ | ⟨g', cap, cur, rfl, _, hg', _⟩
 ·cases hb
 cases hb;rw [hg'] at ho;cases ho;cases hc
theorem y0j {a W W' : World} {row : Option Nat} {C B : Nat} (h : Below C a W) (hC : C <= B) (hg : W.grownBy W' row) (hr : ∀ r, row = some r -> B <= r) (hs : C <= W.heap.size) : Below C a W' :=
 ⟨hg.os.trans h.os, hg.tape.trans h.tape, hg.output.trans h.output, Nat.le_trans h.size hg.size, fun k hk => (hg.block k (by omega) (fun e => by have := hr k e.symm; omega)).trans (h.block k hk)⟩
theorem yAz {w : World} {n : Int} {B : Nat} (hB : w.heap.size <= B) : OwnFrom B (fun (pre : List Uo) W => CntI w n (pre.map (·.1)) W) := by
 rintro pre W W' row ⟨v, h1, h2, h3, h4⟩ hg hr;exact ⟨v, y1D h1 hg (fun r e => (hr r e).2), y1D h2 hg (fun r e => (hr r e).2), y65 h3 hg (fun r e => (hr r e).2), y0j h4 hB hg (fun r e => (hr r e).1) h4.size⟩
theorem yBm {us : List Uo} {n : Int} (h0 : 0 <= n) (h1 : n <= 1000000000000) : 0 <= Cs.restF (us.map (·.1)) n /\ Cs.restF (us.map (·.1)) n <= 1000000000000 := by
  induction us generalizing n with
  | nil => exact ⟨h0, h1⟩
  | cons u r ih =>
    rw [List.map_cons, Cs.restF];have := u.2.2.2.1;have h2 := Int.emod_nonneg n (show u.1.size ≠ 0 by omega);have h3 : n % u.1.size <= n := by
      have h4 := Int.mul_ediv_add_emod n u.1.size;have h5 := Int.mul_nonneg (show 0 <= u.1.size by omega) (Int.ediv_nonneg h0 (show 0 <= u.1.size by omega));omega
    exact ih h2 (by omega)
theorem y0x (w : World) (p : Addr) (v : Value) : w.grownBy (w.setCell p v) (some p.block) :=
 ⟨rfl, rfl, rfl, by simp [World.setCell], fun k _ hk => Below.heap_setCell _ _ _ k (fun e => hk (by rw [e]))⟩
theorem yBM {w : World} {base e size : Nat} {v : Value} {n : Nat} {xs : List Value} (h : w.ownsRow base e size v n xs) {g : Nat} (hg : g < base) : v.ownBlock = none ∨ v.ownBlock ≠ some g := by
 rcases hb : v.ownBlock with _ | k
 ·exact .inl rfl
 refine .inr fun e => ?_;have := (h.lt k hb).1;cases e;omega
theorem y59 {w : World} {base e size : Nat} {v : Value} {n : Nat} {xs : List Value} (h : w.ownsRow base e size v n xs) {p : Addr} (hp : p.block < base) (u : Value) : (w.setCell p u).ownsRow base e size v n xs :=
 h.kept (y0x w p u) (yBM h hp)
theorem Bk.grown {w w' : World} {g : Nat} {t : TypeId} {cs : Array Value} {row : Option Nat} (h : Bk w g t cs) (hg : w.grownBy w' row) (hne : some g ≠ row) : Bk w' g t cs := (hg.block g h.lt hne).trans h
theorem y0e {w : World} {base e size : Nat} {v : Value} {n : Nat} {xs : List Value} (h : w.ownsRow base e size v n xs) (hl : xs.length = n * size) :
  ∃ A c, v = .slice A n c /\ Rd w w.heap.size size A n xs /\ ∀ a, A = some a -> base <= a.block := by
 rcases h.2 with ⟨rfl, h0⟩ | ⟨g, cap, cur, rfl, hb, hg, _⟩
 ·refine ⟨none, 0, by rw [h0], ⟨hl, fun hn => absurd hn (by omega)⟩, fun a e => by cases e⟩
 refine ⟨_, _, rfl, ⟨hl, fun hn => ⟨g, 0, rfl, (Array.getElem?_eq_some_iff.1 hg).1, fun j hj => ?_⟩⟩, fun a e => by cases e; exact hb⟩;rw [Nat.zero_add];exact h.cellAt j (by omega)
theorem y7s {w : World} {base e size : Nat} {v : Value} {n : Nat} {xs : List Value} (h : w.ownsRow base e size v n xs) {g : Nat} {t : TypeId} {cs : Array Value} (k : Bk w g t cs) (hne : t ≠ e) : some g ≠ v.ownBlock := fun e' => by
 rcases h.2 with ⟨rfl, _⟩ | ⟨g', cap, cur, rfl, _, hg', _⟩
 ·cases e'
 obtain rfl : g = g' := by simpa [Value.ownBlock] using e'
 have k' : w.heap[g]? = some (.cells cs t (0, 0)) := k;rw [hg'] at k';simp only [Option.some.injEq, Obj.cells.injEq] at k';exact hne k'.2.1.symm
theorem yC8 {w W W2 : World} {r : Int} {v : Value} {m B : Nat} {xs : List Value} (hB : Below w.heap.size w W) (h1 : Bk W w.heap.size 3 #[.int .i64 r]) (h2 : Bk W (w.heap.size + 1) 23 #[v]) (h3 : W.ownsRow (w.heap.size + 2) 9 1 v m xs)
  (hk : KeepX W.heap.size (fun j => j = w.heap.size ∨ j = w.heap.size + 1 ∨ v.ownBlock = some j) W W2) : KeepsFrom B W W2 /\ Below w.heap.size w W2 := by
 have l1 := h1.lt;have l2 := h2.lt;refine ⟨⟨hk.size, fun k o hb ho hc => ?_⟩, hB.trans (hk.below (B := w.heap.size) hB.size (fun j hj e => ?_))⟩
 ·have hkl := (Array.getElem?_eq_some_iff.1 ho).1;refine (hk.block k hkl (fun e => ?_)).trans ho;rcases e with rfl | rfl | e
  ·have h1' : W.heap[w.heap.size]? = some (.cells #[.int .i64 r] 3 (0, 0)) := h1;rw [ho] at h1';cases h1';cases hc
  ·have h2' : W.heap[w.heap.size + 1]? = some (.cells #[v] 23 (0, 0)) := h2;rw [ho] at h2';cases h2';cases hc
  rcases h3.2 with ⟨rfl, _⟩ | ⟨g', cap, cur, rfl, _, hg', _⟩
  ·cases e
  cases e;rw [hg'] at ho;cases ho;cases hc
 rcases e with e | e | e
 ·omega
 ·omega
 have := h3.lt _ e;omega
theorem y7Z (us : List Uo) (n : Int) (h0 : 0 <= n) (h1 : n <= 1000000000000) : ∀ x ∈ Cs.wordsF (us.map (·.1)) n, x.length <= 1000000 := by
  induction us generalizing n with
  | nil => intro x hx; cases hx
  | cons u r ih =>
    intro x hx;obtain ⟨u, hu⟩ := u;obtain ⟨_, _, us0, us1, ul1, ul2⟩ := hu;have hq0 : 0 <= n / u.size := Int.ediv_nonneg h0 (by omega);have hqr : n / u.size <= n := Int.ediv_le_self _ h0;have hm0 : 0 <= n % u.size := Int.emod_nonneg _ (by omega);have hm1 : n % u.size < u.size := Int.emod_lt_of_pos _ us0;rw [List.map_cons, Cs.wordsF] at hx;rcases List.mem_append.1 hx with hx | hx
    · unfold Cs.pairF at hx
      split at hx
      · cases hx
      split at hx
      · simp only [List.mem_cons, List.not_mem_nil, or_false] at hx
        rcases hx with rfl | rfl
        · simp
        omega
      simp only [List.mem_cons, List.not_mem_nil, or_false] at hx;rcases hx with rfl | rfl
      · have := y2D hq0 (by omega)
        omega
      omega
    exact ih _ hm0 (by omega) x hx
theorem y9R {w W Wn w1 : World} {r s m : Int} {v v' : Value} {k k' Bx : Nat} {xs xs' : List Value} {a b : Value} (i1 : Bk W w.heap.size 3 #[.int .i64 r]) (i2 : Bk W (w.heap.size + 1) 23 #[v]) (i3 : W.ownsRow (w.heap.size + 2) 9 1 v k xs)
  (bX : Bk W Bx 305 #[a, b, .int .i64 s]) (hBx : w.heap.size + 2 <= Bx) (hn : Below W.heap.size W Wn) (hown : w1.ownsRow (w.heap.size + 2) 9 1 v' k' xs') (hgrow : Wn.grownBy w1 v.ownBlock) :
  w1.cell? ⟨w.heap.size + 1, 0, none⟩ = some v /\ w1.frozen? ⟨w.heap.size + 1, 0, none⟩ = false /\
  (w1.setCell ⟨w.heap.size + 1, 0, none⟩ v').cell? ⟨w.heap.size, 0, none⟩ = some (.int .i64 r) /\ (w1.setCell ⟨w.heap.size + 1, 0, none⟩ v').frozen? ⟨w.heap.size, 0, none⟩ = false /\
  (w1.setCell ⟨w.heap.size + 1, 0, none⟩ v').cell? ⟨Bx, 2, none⟩ = some (.int .i64 s) /\ (w1.cell? ⟨Bx, 1, none⟩ = some b) /\
  w.heap.size < w1.heap.size /\ w.heap.size + 1 < w1.heap.size /\ Bx < w1.heap.size /\
  jP (Bk ((w1.setCell ⟨w.heap.size + 1, 0, none⟩ v').setCell ⟨w.heap.size, 0, none⟩ (.int .i64 m)) w.heap.size 3 #[.int .i64 m] /\ Bk ((w1.setCell ⟨w.heap.size + 1, 0, none⟩ v').setCell ⟨w.heap.size, 0, none⟩ (.int .i64 m)) (w.heap.size + 1) 23 #[v'] /\
   ((w1.setCell ⟨w.heap.size + 1, 0, none⟩ v').setCell ⟨w.heap.size, 0, none⟩ (.int .i64 m)).ownsRow (w.heap.size + 2) 9 1 v' k' xs' /\
   KeepX W.heap.size (fun j => j = w.heap.size ∨ j = w.heap.size + 1 ∨ v.ownBlock = some j) W ((w1.setCell ⟨w.heap.size + 1, 0, none⟩ v').setCell ⟨w.heap.size, 0, none⟩ (.int .i64 m))) := by
 have n1 : some w.heap.size ≠ v.ownBlock := fun e => by have := (i3.lt _ e.symm).1; omega
 have n2 : some (w.heap.size + 1) ≠ v.ownBlock := fun e => by have := (i3.lt _ e.symm).1; omega
 have n3 := y7s i3 bX (by decide);have a1 := (i1.below hn i1.lt).grown hgrow n1;have a2 := (i2.below hn i2.lt).grown hgrow n2;have a3 := (bX.below hn bX.lt).grown hgrow n3;have b1 := a1.far (p := ⟨w.heap.size + 1, 0, none⟩) (by simp) v';have b2 := a2.set 0 v';have b3 := a3.far (p := ⟨w.heap.size + 1, 0, none⟩) (by simp; omega) v';have hk : KeepX W.heap.size (fun j => j = w.heap.size ∨ j = w.heap.size + 1 ∨ v.ownBlock = some j) W w1 := (KeepX.of_below hn _).trans (KeepX.of_grown hgrow hn.size (fun k e _ => .inr (.inr e)));refine ⟨(a2.cell 0).trans rfl, a2.frozen 0, (b1.cell 0).trans rfl, b1.frozen 0, (b3.cell 2).trans rfl, (a3.cell 1).trans rfl, a1.lt, a2.lt, a3.lt, Lib.hid ⟨b1.set 0 _, b2.far (p := ⟨w.heap.size, 0, none⟩) (by simp) _, y59 (y59 hown (by simp) _) (by simp) _, ?_⟩⟩;exact (hk.setCell (p := ⟨w.heap.size + 1, 0, none⟩) (fun _ => .inr (.inl rfl)) _).setCell (p := ⟨w.heap.size, 0, none⟩) (fun _ => .inl rfl) _
theorem y6n (g : Nat) (us : List Uo) (hus : us.length <= 4) (hst : ∀ n, 1 <= n -> ∀ Kp w, SeqStopsK Fence.wide n Tryz.prog g #[] uvals Kp (fun xs => xs = us) (fun pre => pre <+: us) us.length w)
  (eg : ∀ args w, (callFunc g args).run Tryz.prog w = .ok (.enter g args) w) (n most : Int) (h0 : 0 < n) (h1 : n <= most) (h2 : most <= 1000000000000) (w : World) (hE : Env w) :
  Calls Tryz.prog 304 #[.func (.func g) #[] #[], .int .i64 n, .int .i64 most] w fun e w' => e = .returned (sv (Lib.join (Cs.wordsF (us.map (·.1)) n) [32])) /\ Below w.heap.size w w' := by
 obtain ⟨i0, hi0, hy0, hy1, hy2⟩ := info_parts yD5;have hn0 : (n == 0) = false := beq_eq_false_iff_ne.2 (by omega);have hd : decide (0 <= n /\ n <= most) = true := decide_eq_true ⟨by omega, h1⟩;have HD := jQ hd;have HE := jQ hE;clear hd hE;refine (callsIn_wide (n := 3)).1 ?_;refine callsIn_of_wp_marks Tryz.func304 rfl trivial ?_ rfl;simp only [Tryz.ntmps304, List.size_toArray, List.length_cons, List.length_nil, Nat.reduceAdd, Nat.reduceSub, Array.replicate_succ, Array.replicate_zero, List.push_toArray, List.append_toArray, List.nil_append, List.cons_append];gi_wp2_with (refine ⟨trivial, ?_⟩; gi_at_call 127; refine (callsIn_wide.2 (y0H _ _ _ _)).mono ?_; rw [HD.o]; rintro e w' ⟨rfl, rfl⟩);have kn := (Bk.new w 3 #[.int .i64 n]).alloc (.cells #[.slice none 0 0] 23);have kw := Bk.new (w.alloc (.cells #[.int .i64 n] 3)) 23 #[.slice none 0 0];have hB0 := ((Below.refl w.heap.size w).alloc (Nat.le_refl _) (.cells #[.int .i64 n] 3)).alloc (by simp) (.cells #[.slice none 0 0] 23);have e0 : ((w.alloc (.cells #[.int .i64 n] 3)).alloc (.cells #[.slice none 0 0] 23)).heap.size = w.heap.size + 2 := by simp
 rw [World.size_alloc] at kw;obtain ⟨W0, hW0⟩ := zE (((w.alloc (.cells #[.int .i64 n] 3)).alloc (.cells #[.slice none 0 0] 23)));rw [hW0] at kn kw hB0 e0 ⊢;clear hW0;have hz0 : W0.heap.size <= w.heap.size + 2 := by omega
 have hz1 : w.heap.size + 2 <= W0.heap.size := by omega
 clear e0;have HST := jQ hst;have EG := jQ eg;clear hst eg;refine wpIn_rangeFunc_ownH (F := Fence.wide) (n := 3) rfl (by omega) (gf := g) (lb := #[]) rfl trivial EG.o
  (HST.o 2 (by omega) (fun _ _ => True) W0) (fun _ _ => trivial) (fun _ _ _ _ _ _ _ _ => trivial) (Below.refl _ _) (fun _ => rfl)
  (fun pre W' => CntI w n (pre.map (·.1)) W')
  (fun _ _ _ => False)
  (yAz (by omega))
  (fun _ _ _ _ _ h _ _ => h)
  ⟨.slice none 0 0, kn, kw, World.ownsRow_nil _ _ _ _, hB0⟩
  (fun x a' W' => ∃ Bx, W0.heap.size <= Bx /\ Bk W' Bx 305 #[.string ⟨x.1.one.toArray⟩, .string ⟨x.1.many.toArray⟩, .int .i64 x.1.size] /\ a' = { tmps := (Value.func (.func g) #[] #[] :: Value.int .i64 n :: Value.int .i64 most :: undef :: Value.pointer (some ⟨w.heap.size, 0, none⟩) :: undef :: Value.string ⟨#[]⟩ :: Value.pointer (some ⟨w.heap.size + 1, 0, none⟩) :: Value.pointer (some ⟨Bx, 0, none⟩) :: undef :: Value.int .i64 n :: Value.int .i64 most :: Value.bool true :: Value.bool false :: Value.int .i64 n :: Value.bool false :: Value.func (.func g) #[] #[] :: Value.agg #[.string ⟨x.1.one.toArray⟩, .string ⟨x.1.many.toArray⟩, .int .i64 x.1.size] :: undef :: undef :: undef :: undef :: undef :: undef :: undef :: undef :: undef :: undef :: undef :: undef :: undef :: undef :: undef :: undef :: undef :: undef :: undef :: undef :: undef :: undef :: undef :: undef :: undef :: undef :: undef :: []).toArray, defers := [] })
  (fun x a' _ X Y row hs hg hr => by obtain ⟨Bx, h1, h2, h3⟩ := hs; exact ⟨Bx, h1, y1D h2 hg (fun r e => (hr r e).2), h3⟩)
  ?assign ?body ?done ?stop
 case assign =>
  rintro l pre x W' KK i1 hKK;rw [show uvals x = #[.agg #[.string ⟨x.1.one.toArray⟩, .string ⟨x.1.many.toArray⟩, .int .i64 x.1.size]] from rfl];have hBW : W0.heap.size <= W'.heap.size := by
   obtain ⟨v, q1, q2, q3, q4⟩ := i1;have := q2.lt;omega
  have i2 : CntI w n (pre.map (·.1)) (W'.alloc (.cells #[.string ⟨x.1.one.toArray⟩, .string ⟨x.1.many.toArray⟩, .int .i64 x.1.size] 305)) := by
   obtain ⟨v, q1, q2, q3, q4⟩ := i1;exact ⟨v, q1.alloc _, q2.alloc _, q3.alloc _, q4.alloc q4.size _⟩
  have I2 := jQ i2;have HKK := jQ hKK;clear i1 i2 hKK;gi_wp2_with (fail);exact HKK.o _ _ ((KeepsOthers.alloc _ _).from _) trivial I2.o ⟨W'.heap.size, hBW, Bk.new W' _ _, rfl⟩
 case body =>
  rintro l' pre x a' W' hl' ⟨rr, hr⟩ ⟨v, i1, i2, i3, i4⟩ ⟨Bx, hBx, bX, rfl⟩ hltp;obtain ⟨u, hu⟩ := x;obtain ⟨uo1, uo2, us0, us1, ul1, ul2⟩ := id hu;obtain ⟨r0, r1⟩ := yBm (us := pre) (n := n) (by omega) (by omega);have hsw := Cs.y7Y (pre.map (·.1)) u n;have hsr := Cs.y92 (pre.map (·.1)) u n;have hmap : (pre ++ [(⟨u, hu⟩ : Uo)]).map (·.1) = pre.map (·.1) ++ [u] := by simp
  have hwl := (Cs.y6W (pre.map (·.1)) n).1;rw [List.length_map] at hwl;obtain ⟨r, hrr⟩ := zE (Cs.restF (pre.map (·.1)) n);obtain ⟨ws, hws⟩ := zE (Cs.wordsF (pre.map (·.1)) n);rw [hrr] at r0 r1 hsr hsw i1;rw [hws] at hsw hwl i3;obtain ⟨s, hs⟩ := zE (u.size);dsimp only at bX;rw [hs] at hsw hsr us0 us1 bX;have hq0 : 0 <= r / s := Int.ediv_nonneg r0 (by omega);have hqr : r / s <= r := Int.ediv_le_self _ r0;have hm0 : 0 <= r % s := Int.emod_nonneg _ (by omega);have hm1 : r % s < s := Int.emod_lt_of_pos _ us0;have htd : r.tdiv s = r / s := Int.tdiv_eq_ediv_of_nonneg r0;have htm : r.tmod s = r % s := Int.tmod_eq_emod_of_nonneg r0;obtain ⟨q, hq⟩ := zE (r / s);obtain ⟨m, hm⟩ := zE (r % s);rw [hq] at hsw hq0 hqr htd;rw [hm] at hsr hm0 hm1 htm;have hpn : ∀ (W2 : World) (v2 : Value), Bk W2 w.heap.size 3 #[.int .i64 m] -> Bk W2 (w.heap.size + 1) 23 #[v2] -> W2.ownsRow (w.heap.size + 2) 9 1 v2 (ws ++ Cs.pairF u q).length (wcells (ws ++ Cs.pairF u q)) ->
    KeepX W'.heap.size (fun j => j = w.heap.size ∨ j = w.heap.size + 1 ∨ v.ownBlock = some j) W' W2 -> KeepsFrom W0.heap.size W' W2 /\ True /\ CntI w n ((pre ++ [(⟨u, hu⟩ : Uo)]).map (·.1)) W2 := fun W2 v2 q1 q2 q3 hk => by
   obtain ⟨k1, k2⟩ := yC8 (B := W0.heap.size) i4 i1 i2 i3 hk;refine ⟨k1, trivial, v2, ?_, q2, ?_, k2⟩
   ·rw [hmap, hsr]; exact q1
   rw [hmap, hsw]; exact q3
  have HPN := jQ hpn;have x0 := (bX.cell 0).trans rfl;have x1 := (bX.cell 1).trans rfl;have x2 := (bX.cell 2).trans rfl;have c0 := (i1.cell 0).trans rfl;have cw := (i2.cell 0).trans rfl;have lX := bX.lt;have l1 := i1.lt;have l2 := i2.lt;have hs0 : ¬ s = 0 := by omega
  have HWS := jQ (show ws.length <= 8 by omega);rw [hs];clear hpn hmap hsw hsr hr hltp hwl hq hm hrr hws;by_cases hz : q = 0
  ·subst hz;have f0 := i1.frozen 0;have HFN := jQ (HPN.o (W'.setCell ⟨w.heap.size, 0, none⟩ (.int .i64 m)) v (i1.set 0 _) (i2.far (p := ⟨w.heap.size, 0, none⟩) (by simp) _) (by rw [show Cs.pairF u 0 = [] from rfl, List.append_nil]; exact y59 i3 (by simp) _)
    ((KeepX.refl _ _ _).setCell (p := ⟨w.heap.size, 0, none⟩) (fun _ => .inl rfl) _))
   clear i1 i2 i3 i4 bX HPN;gi_wp2_with (fail);exact HFN.o
  have hz0 : (q == 0) = false := beq_eq_false_iff_ne.2 hz;clear hz;by_cases hz : q = 1
  ·subst hz;have hp1 : Cs.pairF u 1 = [[49], u.one] := rfl;have hcl : ws.length + 2 = (ws ++ Cs.pairF u 1).length := by rw [hp1]; simp
   have hcx : wcells ws ++ [.string ⟨#[49]⟩, .string ⟨u.one.toArray⟩] = wcells (ws ++ Cs.pairF u 1) := by rw [hp1]; simp [wcells, sv]
   have hQ : ∀ (w1 : World) (v' : Value), w1.ownsRow (w.heap.size + 2) 9 1 v' (ws.length + 2) (wcells ws ++ [.string ⟨#[49]⟩, .string ⟨u.one.toArray⟩]) -> (W'.alloc (.cells #[.string ⟨#[49]⟩, .string ⟨u.one.toArray⟩] 9)).grownBy w1 v.ownBlock -> _ :=
    fun w1 v' hown hgrow => y9R (m := m) i1 i2 i3 bX (by omega) ((Below.refl _ W').alloc (Nat.le_refl _) _) hown hgrow
   have hOn := i3.alloc (.cells #[.string ⟨#[49]⟩, .string ⟨u.one.toArray⟩] 9);have hb47 : ws.length + 2 <= 1000 := by have := HWS.o; omega
   have HQ := jQ hQ;have HCL := jQ (And.intro hcl hcx);clear i1 i2 i3 i4 bX hp1 hcl hcx hQ;gi_wp2_with (first
    | (refine wpListIn_append_own_at _ rfl _ _ 23 rfl (w.heap.size + 2) 9 i0 _ 1 16 Tryz.underlying23 hi0 hy0 hy1 hy2 rfl (by omega) v _ _ rfl hOn ⟨W'.heap.size, 0, none⟩ 2 2 [.string ⟨#[49]⟩, .string ⟨u.one.toArray⟩] rfl rfl (World.news_of_block (cs := #[.string ⟨#[49]⟩, .string ⟨u.one.toArray⟩]) (t := 9) (fr := (0, 0)) (World.alloc_heap_new W' _)) (by simp [Value.oneCell']) (by unfold maxLen; omega) (by omega) (by rw [World.size_alloc]; omega) ?_; intro v' w1 hown hgrow hnil hat; obtain ⟨A3, c3, hv3, _, _⟩ := y0e hown (by simp [wcells]); subst hv3; obtain ⟨q1, q2, q3, q4, q5, q6, q7, q8, q9, QQ⟩ := HQ.o w1 _ hown hgrow))
   obtain ⟨k1, k2, k3, k4⟩ := QQ.o;exact HPN.o _ _ k1 k2 (by rw [<- HCL.o.1, <- HCL.o.2]; exact k3) k4
  have hz1 : (q == 1) = false := beq_eq_false_iff_ne.2 hz;clear hz;have hp2 : Cs.pairF u q = [Lib.itoa q, u.many] := by
   unfold Cs.pairF;rw [if_neg (by simpa using hz0), if_neg (by simpa using hz1)]
  obtain ⟨T, hT⟩ := zE (Lib.itoa q);rw [hT] at hp2;have hIT := fun w h => y1v q (by omega) (by omega) w h;rw [hT, y06] at hIT;have hcl : ws.length + 2 = (ws ++ Cs.pairF u q).length := by rw [hp2]; simp
  have hcx : wcells ws ++ [.string ⟨T.toArray⟩, .string ⟨u.many.toArray⟩] = wcells (ws ++ Cs.pairF u q) := by rw [hp2]; simp [wcells, sv]
  have HEW := jQ (HE.o.step i4);have hb47 : ws.length + 2 <= 1000 := by have := HWS.o; omega
  have HIT := jQ hIT;have HCL := jQ (And.intro hcl hcx);clear hp2 hcl hcx hIT hT;gi_wp2_with (fail);obtain ⟨V, hVV⟩ := zE (W'.drew);have hbV : Below W'.heap.size W' V := by rw [<- hVV]; exact (Below.refl _ _).drew
  have hSV : V.cell? ⟨w.heap.size + 1, 0, none⟩ = some v /\ V.cell? ⟨Bx, 1, none⟩ = some (.string ⟨u.many.toArray⟩) := by rw [<- hVV]; exact ⟨cw, x1⟩
  refine y1W (S := fun V => V.cell? ⟨w.heap.size + 1, 0, none⟩ = some v /\ V.cell? ⟨Bx, 1, none⟩ = some (.string ⟨u.many.toArray⟩)) 7 rfl rfl (by kernel_rfl) (by kernel_rfl) (by kernel_rfl) (fun ⟨_, _, h⟩ => h) (by rw [hVV]; exact hSV) (fun _ => ?_);rw [hVV];dsimp only [List.take]
  (refine wpAnyH_take (i := 0) (v := ?_) rfl (by kernel_rfl) (by kernel_rfl) (by kernel_rfl) (fun _ _ _ h => h) (Or.inl ⟨by rfl, ?_⟩) hSV ?_; rotate_left 1; focus (intro w hSw; (try dsimp only at hSw); go_simp; all_goals (with_reducible rfl)); (try simp only [Act.put, zB]))
  (refine wpAnyH_take (i := 1) (v := ?_) rfl (by kernel_rfl) (by kernel_rfl) (by kernel_rfl) (fun _ _ _ h => h) (Or.inl ⟨by rfl, ?_⟩) hSV ?_; rotate_left 1; focus (intro w hSw; (try dsimp only at hSw); go_simp; all_goals (with_reducible rfl)); (try simp only [Act.put, zB]))
  (refine wpAnyH_take (i := 3) (v := ?_) rfl (by kernel_rfl) (by kernel_rfl) (by kernel_rfl) (fun _ _ _ h => h) (Or.inl ⟨by rfl, ?_⟩) hSV ?_; rotate_left 1; focus (intro w hSw; (try dsimp only at hSw); go_simp; all_goals (with_reducible rfl)); (try simp only [Act.put, zB]))
  (refine wpAnyH_take (i := 4) (v := ?_) rfl (by kernel_rfl) (by kernel_rfl) (by kernel_rfl) (fun _ _ _ h => h) (Or.inl ⟨by rfl, ?_⟩) hSV ?_; rotate_left 1; focus (intro w hSw; (try dsimp only at hSw); go_simp; all_goals (with_reducible rfl)); (try simp only [Act.put, zB]))
  refine wpAnyH_ready (rs := [2]) (by kernel_rfl) (by simp) ?_;refine zA rfl fun K hK => ?_;rw [if_pos (by rfl)];go_simp;refine (HIT.o V (HEW.o.step hbV)).mono ?_;rintro e w3 ⟨rfl, hb3⟩;have hb3' := hbV.trans (hb3.mono hbV.size);have hS3 : w3.cell? ⟨w.heap.size + 1, 0, none⟩ = some v /\ w3.cell? ⟨Bx, 1, none⟩ = some (.string ⟨u.many.toArray⟩) :=
   ⟨(hb3'.cell (p := ⟨w.heap.size + 1, 0, none⟩) l2).trans cw, (hb3'.cell (p := ⟨Bx, 1, none⟩) lX).trans x1⟩
  simp only [];refine hK.out _ _ hS3 (fun _ => ?_);clear hK K
  (try simp only [Act.put, zB])
  refine wpAnyH_ready (rs := [5]) (by kernel_rfl) (by simp) ?_;refine zA rfl fun K hK => ?_;rw [if_pos (by rfl)];go_simp;have hb4 : Below W'.heap.size W' (w3.alloc (.cells #[.string ⟨T.toArray⟩, .string ⟨u.many.toArray⟩] 9)) := hb3'.alloc hb3'.size _;have hS4 : (w3.alloc (.cells #[.string ⟨T.toArray⟩, .string ⟨u.many.toArray⟩] 9)).cell? ⟨w.heap.size + 1, 0, none⟩ = some v /\ (w3.alloc (.cells #[.string ⟨T.toArray⟩, .string ⟨u.many.toArray⟩] 9)).cell? ⟨Bx, 1, none⟩ = some (.string ⟨u.many.toArray⟩) :=
   ⟨(hb4.cell (p := ⟨w.heap.size + 1, 0, none⟩) l2).trans cw, (hb4.cell (p := ⟨Bx, 1, none⟩) lX).trans x1⟩
  refine hK.out _ _ hS4 (fun _ => ?_);clear hK K
  (try simp only [Act.put, zB])
  have hOn : (w3.alloc (.cells #[.string ⟨T.toArray⟩, .string ⟨u.many.toArray⟩] 9)).ownsRow (w.heap.size + 2) 9 1 v ws.length (wcells ws) := i3.kept ⟨hb4.os, hb4.tape, hb4.output, hb4.size, fun k hk _ => hb4.block k hk⟩ (Classical.em _);have hz3 := hb3'.size;refine wpAnyH_ready (rs := [6]) (by kernel_rfl) (by simp) ?_;refine zA rfl fun K hK => ?_;refine step_append_lies _ rfl (.tmp 23) (.tmp 28) 23 rfl (w.heap.size + 2) 9 i0 _ 1 16 Tryz.underlying23 hi0 hy0 hy1 hy2 rfl (by omega) v ws.length (wcells ws) (by rfl) hOn ⟨w3.heap.size, 0, none⟩ 2 2 [.string ⟨T.toArray⟩, .string ⟨u.many.toArray⟩] (by rfl) rfl
   (World.news_of_block (cs := #[.string ⟨T.toArray⟩, .string ⟨u.many.toArray⟩]) (t := 9) (fr := (0, 0)) (World.alloc_heap_new w3 _)) (by simp [Value.oneCell']) (by omega) (by unfold maxLen; omega) (by omega) (by rw [World.size_alloc]; omega) (w3.heap.size + 1) (by simp) ?_
  intro g5 cap5 w5 hown hgrow hat hg5;obtain ⟨q1, q2, q3, q4, q5, q6, q7, q8, q9, QQ⟩ := y9R (m := m) i1 i2 i3 bX (by omega) hb4 hown hgrow;refine hK.out _ _ ⟨q1, q6⟩ (fun _ => ?_);clear hK K
  (try simp only [Act.put, zB])
  refine wpAnyH_done (by kernel_rfl) ?_ _;simp only [QLast, zC];clear i1 i2 i3 i4 bX hown hgrow hb3 hb3' hS3 hS4 hb4 hSV;go_wp2_with (fail);gi_wp2_with (fail);obtain ⟨k1, k2, k3, k4⟩ := QQ.o;exact HPN.o _ _ k1 k2 (by rw [<- HCL.o.1, <- HCL.o.2]; exact k3) k4
 case done =>
  rintro D xs W' hD rfl ⟨v, i1, i2, i3, i4⟩ hKD;have hwd : ∀ x ∈ Cs.wordsF (xs.map (·.1)) n, x.length <= 1000000 := y7Z xs n (by omega) (by omega);have hwl := (Cs.y6W (xs.map (·.1)) n).1;rw [List.length_map] at hwl;obtain ⟨ws, hws⟩ := zE (Cs.wordsF (xs.map (·.1)) n);rw [hws] at i3 hwd hwl;have HWX := jQ hws;clear hws;obtain ⟨A3, c3, rfl, hrd, _⟩ := y0e i3 (by simp [wcells]);have hc3 : ws.length <= c3 := by
   rcases i3.2 with ⟨h, h0⟩ | ⟨g, cap, cur, h, _, _, hn, _⟩
   ·omega
   cases h; exact hn
  have cw := (i2.cell 0).trans rfl;have l2 := i2.lt;have HJ := jQ (y7o A3 c3 ws W' hrd hc3 (by omega) hwd);have HB4 := jQ i4;have HKD := jQ hKD;clear i1 i2 i3 i4 hwd hrd hKD;gi_wp2_with (refine ⟨trivial, ?_⟩; gi_at_call 139; refine (callsIn_wide.2 HJ.o).mono ?_; rintro e w3 ⟨rfl, hb3⟩);have hkd : w3.heap[D]? = some (.deferred (some [])) := (hb3.block D (Array.getElem?_eq_some_iff.1 HKD.o).1).trans HKD.o;refine y16 [D] _ (by simp) (fun E hE => by simp only [List.mem_cons, List.not_mem_nil, or_false] at hE; rw [hE]; exact hkd) (fun w' hw => ?_);refine ⟨_, results_tmp rfl _ _ _, by rw [HWX.o]; rfl, ?_⟩;exact (HB4.o.trans (hb3.mono HB4.o.size)).trans (hw.below (Nat.le_trans HB4.o.size hb3.size) (fun j hj e => by simp only [List.mem_cons, List.not_mem_nil, or_false] at e; omega))
 rintro D c pre W' hD hSp hf hKD;exact hf.elim
theorem y8N (g : Value) (n most : Int) (h : ¬ (0 <= n /\ n <= most)) (w : World) :
  Calls Tryz.prog 304 #[g, .int .i64 n, .int .i64 most] w fun e w' => e = .returned (sv []) /\ Below w.heap.size w w' := by
 have hd : decide (0 <= n /\ n <= most) = false := decide_eq_false h;have HD := jQ hd;have HB := jQ ((Below.refl w.heap.size w).alloc (Nat.le_refl _) (.cells #[.int .i64 n] 3));clear hd h;go_enter Tryz.func304, Tryz.ntmps304;go_wp2_with (go_at_call 127; refine (y0H _ _ _ _).mono ?_; rw [HD.o]; rintro e w' ⟨rfl, rfl⟩);go_ret;exact ⟨rfl, HB.o⟩
theorem y5f (g : Value) (most : Int) (h : 0 <= most) (w : World) :
  Calls Tryz.prog 304 #[g, .int .i64 0, .int .i64 most] w fun e w' => e = .returned (sv Cs.zeroL) /\ Below w.heap.size w w' := by
 have hd : decide ((0 : Int) <= 0 /\ 0 <= most) = true := decide_eq_true ⟨by omega, h⟩;have HD := jQ hd;have HB := jQ ((Below.refl w.heap.size w).alloc (Nat.le_refl _) (.cells #[.int .i64 0] 3));clear hd h;go_enter Tryz.func304, Tryz.ntmps304;go_wp2_with (go_at_call 127; refine (y0H _ _ _ _).mono ?_; rw [HD.o]; rintro e w' ⟨rfl, rfl⟩);go_ret;exact ⟨rfl, HB.o⟩
theorem y6m (g : Nat) (us : List Uo) (hus : us.length <= 4) (hst : ∀ n, 1 <= n -> ∀ Kp w, SeqStopsK Fence.wide n Tryz.prog g #[] uvals Kp (fun xs => xs = us) (fun pre => pre <+: us) us.length w)
  (eg : ∀ args w, (callFunc g args).run Tryz.prog w = .ok (.enter g args) w) (n most : Int) (h2 : most <= 1000000000000) (h3 : 0 <= most) (w : World) (hE : Env w) :
  Calls Tryz.prog 304 #[.func (.func g) #[] #[], .int .i64 n, .int .i64 most] w fun e w' => e = .returned (sv (Cs.writeF (us.map (·.1)) most n)) /\ Below w.heap.size w w' := by
 unfold Cs.writeF;by_cases h : 0 <= n /\ n <= most
 ·rw [if_pos h];by_cases h0 : n = 0
  ·subst h0;rw [if_pos rfl];exact y5f _ most h3 w
  rw [if_neg h0];exact y6n g us hus hst eg n most (by omega) h.2 h2 w hE
 rw [if_neg h];exact y8N _ n most h w
theorem y86 (n : Int) (w : World) (hE : Env w) :
  Calls Tryz.prog 282 #[.int .i64 n] w fun e w' => e = .returned (sv (Cs.lenF n)) /\ Below w.heap.size w w' := by
 have HC := jQ (y6m 281 lenO (by decide) (fun n h Kp w => y2E n h Kp w) (enters_of Tryz.func281 (by kernel_rfl) rfl) n 1000000 (by decide) (by decide) w hE);clear hE;go_enter Tryz.func282, Tryz.ntmps282;go_wp2_with fail;refine HC.o.mono ?_;rintro e w1 ⟨rfl, hb1⟩;rw [y06];go_wp2_with fail;go_ret;exact ⟨rfl, hb1⟩
attribute [local go_sem] Oper.semAt_some
theorem y1S {P : Program} {fn : Func} {p : Tmp} {ty : TypeId} (h : fn.results = #[.cell p ty]) (tmps : Array Value) (w : World) (g : Nat) (v : Value) (hp : tmps.getD p undef = .pointer (some ⟨g, 0, none⟩))
  (hc : w.cell? ⟨g, 0, none⟩ = some v) (ha : ∀ w, (isAgg ty).run P w = .ok false w) : (results fn tmps).run P w = .ok v w := by
 have hp' : tmps[p]?.getD undef = .pointer (some ⟨g, 0, none⟩) := by simpa using hp
 simp [results, h, hp', asAddr, go_sem, hc, ha, Result.andThen]
def noForm : Value := .iface 9 (.string ⟨#[116, 104, 105, 115, 32, 105, 115, 32, 119, 114, 105, 116, 116, 101, 110, 32, 111, 116, 104, 101, 114, 119, 105, 115, 101]⟩)
theorem y4X (l : Cs.Bs) (v : Int) (hv : Cs.numF l = some v) (hl : l.length <= 1000000) (w : World) :
  Calls Tryz.prog 302 #[sv l] w fun e w' => e = .returned (.int .i64 v) /\ Below w.heap.size w w' := by
 have HA := jQ (y9L l v hv hl w);rw [y06];clear hv;go_enter Tryz.func302, Tryz.ntmps302;go_wp2_with fail;refine HA.o.mono ?_;rintro e w1 ⟨rfl, hb1⟩;go_wp2_with fail;go_ret;exact ⟨rfl, hb1⟩
theorem y62 (l : Cs.Bs) (hv : Cs.numF l = none) (hl : l.length <= 1000000) (w : World) (hE : Env w) :
  Calls Tryz.prog 302 #[sv l] w fun e w' => e = .panicked [{ v := noForm, recovered := false }] /\ Below w.heap.size w w' := by
 have HA := jQ (y9K l hv hl w hE);rw [y06];clear hv hE;go_enter Tryz.func302, Tryz.ntmps302;go_wp2_with fail;refine HA.o.mono ?_;rintro e w1 ⟨v, t, p, rfl, hb1⟩;go_wp2_with fail;exact ⟨rfl, rfl, hb1⟩
def Rdn (r : Option Int) (e : Ending) : Prop := match r with | some z => e = .returned (.int .i64 z) | none => e = .panicked [{ v := noForm, recovered := false }]
theorem Rdn.some_ {r : Option Int} {z : Int} (h : r = some z) : Rdn r (.returned (.int .i64 z)) := by rw [h]; rfl
theorem Rdn.none_ {r : Option Int} (h : r = none) : Rdn r (.panicked [{ v := noForm, recovered := false }]) := by rw [h]; rfl
theorem Cs.y95 {us : List Cs.Un} {w : Cs.Bs} (h : ∀ v ∈ us, ¬ (w = v.one ∨ w = v.many)) : Cs.sizeF us w = none := by
  induction us with
  | nil => rfl
  | cons u r ih =>
    rw [Cs.sizeF, if_neg (h u List.mem_cons_self)];exact ih (fun x hx => h x (List.mem_cons_of_mem _ hx))
theorem Cs.yBW {us r : List Cs.Un} {u : Cs.Un} {w : Cs.Bs} (h : ∀ v ∈ us, ¬ (w = v.one ∨ w = v.many)) (hu : w = u.one ∨ w = u.many) : Cs.sizeF (us ++ u :: r) w = some u.size := by
  induction us with
  | nil => simp [Cs.sizeF, hu]
  | cons v t ih =>
    rw [List.cons_append, Cs.sizeF, if_neg (h v List.mem_cons_self)];exact ih (fun x hx => h x (List.mem_cons_of_mem _ hx))
def SizX (w : World) (wd : Cs.Bs) (c : Code) (pre : List Uo) (W : World) : Prop :=
 c = .ret /\ ∃ (pre' : List Uo) (x : Uo), pre = pre' ++ [x] /\ (∀ v ∈ pre'.map (·.1), ¬ (wd = v.one ∨ wd = v.many)) /\ (wd = x.1.one ∨ wd = x.1.many) /\ Bk W (w.heap.size + 1) 3 #[.int .i64 x.1.size] /\ Below w.heap.size w W
theorem yBV {w : World} {wd : Cs.Bs} {B : Nat} (hB : w.heap.size <= B) (c : Code) : OwnFrom B (SizX w wd c) := by
 rintro pre W W' row ⟨h0, pre', x, h1, h2, h3, h4, h5⟩ hg hr;exact ⟨h0, pre', x, h1, h2, h3, y1D h4 hg (fun r e => (hr r e).2), y0j h5 hB hg (fun r e => (hr r e).1) h5.size⟩
def SizI (w : World) (wd : Cs.Bs) (pre : List Uo) (W : World) : Prop :=
 (∀ v ∈ pre.map (·.1), ¬ (wd = v.one ∨ wd = v.many)) /\ Bk W w.heap.size 9 #[.string ⟨wd.toArray⟩] /\ Bk W (w.heap.size + 1) 3 #[.int .i64 0] /\ Below w.heap.size w W
theorem yBU {w : World} {wd : Cs.Bs} {B : Nat} (hB : w.heap.size <= B) : OwnFrom B (SizI w wd) := by
 rintro pre W W' row ⟨h1, h2, h3, h4⟩ hg hr;exact ⟨h1, y1D h2 hg (fun r e => (hr r e).2), y1D h3 hg (fun r e => (hr r e).2), y0j h4 hB hg (fun r e => (hr r e).1) h4.size⟩
theorem yBX (g : Nat) (us : List Uo) (hst : ∀ n, 1 <= n -> ∀ Kp w, SeqStopsK Fence.wide n Tryz.prog g #[] uvals Kp (fun xs => xs = us) (fun pre => pre <+: us) us.length w)
  (eg : ∀ args w, (callFunc g args).run Tryz.prog w = .ok (.enter g args) w) (wd : Cs.Bs) (w : World) :
  Calls Tryz.prog 303 #[.func (.func g) #[] #[], sv wd] w fun e w' => Rdn (Cs.sizeF (us.map (·.1)) wd) e /\ Below w.heap.size w w' := by
 rw [y06];refine (callsIn_wide (n := 3)).1 ?_;refine callsIn_of_wp_marks Tryz.func303 rfl trivial ?_ rfl;simp only [Tryz.ntmps303, List.size_toArray, List.length_cons, List.length_nil, Nat.reduceAdd, Nat.reduceSub, Array.replicate_succ, Array.replicate_zero, List.push_toArray, List.append_toArray, List.nil_append, List.cons_append];gi_wp2_with (fail);have kn := (Bk.new w 9 #[.string ⟨wd.toArray⟩]).alloc (.cells #[.int .i64 0] 3);have kw := Bk.new (w.alloc (.cells #[.string ⟨wd.toArray⟩] 9)) 3 #[.int .i64 0];have hB0 := ((Below.refl w.heap.size w).alloc (Nat.le_refl _) (.cells #[.string ⟨wd.toArray⟩] 9)).alloc (by simp) (.cells #[.int .i64 0] 3);have e0 : ((w.alloc (.cells #[.string ⟨wd.toArray⟩] 9)).alloc (.cells #[.int .i64 0] 3)).heap.size = w.heap.size + 2 := by simp
 rw [World.size_alloc] at kw;obtain ⟨W0, hW0⟩ := zE (((w.alloc (.cells #[.string ⟨wd.toArray⟩] 9)).alloc (.cells #[.int .i64 0] 3)));rw [hW0] at kn kw hB0 e0 ⊢;clear hW0;have hz0 : W0.heap.size <= w.heap.size + 2 := by omega
 have hz1 : w.heap.size + 2 <= W0.heap.size := by omega
 clear e0;have HST := jQ hst;have EG := jQ eg;clear hst eg;refine wpIn_rangeFunc_ownH (F := Fence.wide) (n := 3) rfl (by omega) (gf := g) (lb := #[]) rfl trivial EG.o
  (HST.o 2 (by omega) (fun _ _ => True) W0) (fun _ _ => trivial) (fun _ _ _ _ _ _ _ _ => trivial) (Below.refl _ _) (fun _ => rfl)
  (SizI w wd)
  (SizX w wd)
  (yBU (by omega))
  (yBV (by omega))
  ⟨(fun v hv => by cases hv), kn, kw, hB0⟩
  (fun x a' W' => ∃ Bx, W0.heap.size <= Bx /\ Bk W' Bx 305 #[.string ⟨x.1.one.toArray⟩, .string ⟨x.1.many.toArray⟩, .int .i64 x.1.size] /\ a' = { tmps := (Value.func (.func g) #[] #[] :: Value.string ⟨wd.toArray⟩ :: undef :: Value.pointer (some ⟨w.heap.size, 0, none⟩) :: Value.pointer (some ⟨w.heap.size + 1, 0, none⟩) :: Value.pointer (some ⟨Bx, 0, none⟩) :: Value.func (.func g) #[] #[] :: Value.agg #[.string ⟨x.1.one.toArray⟩, .string ⟨x.1.many.toArray⟩, .int .i64 x.1.size] :: undef :: undef :: undef :: undef :: undef :: undef :: undef :: undef :: undef :: undef :: undef :: undef :: undef :: []).toArray, defers := [] })
  (fun x a' _ X Y row hs hg hr => by obtain ⟨Bx, h1, h2, h3⟩ := hs; exact ⟨Bx, h1, y1D h2 hg (fun r e => (hr r e).2), h3⟩)
  ?assign ?body ?done ?stop
 case assign =>
  rintro l pre x W' KK i1 hKK;rw [show uvals x = #[.agg #[.string ⟨x.1.one.toArray⟩, .string ⟨x.1.many.toArray⟩, .int .i64 x.1.size]] from rfl];have hBW : W0.heap.size <= W'.heap.size := by
   have := i1.2.2.1.lt;omega
  have i2 : SizI w wd pre (W'.alloc (.cells #[.string ⟨x.1.one.toArray⟩, .string ⟨x.1.many.toArray⟩, .int .i64 x.1.size] 305)) := by
   obtain ⟨q1, q2, q3, q4⟩ := i1;exact ⟨q1, q2.alloc _, q3.alloc _, q4.alloc q4.size _⟩
  have I2 := jQ i2;have HKK := jQ hKK;clear i1 i2 hKK;gi_wp2_with (fail);exact HKK.o _ _ ((KeepsOthers.alloc _ _).from _) trivial I2.o ⟨W'.heap.size, hBW, Bk.new W' _ _, rfl⟩
 case body =>
  rintro l' pre x a' W' hl' ⟨rr, hr⟩ ⟨i1, i2, i3, i4⟩ ⟨Bx, hBx, bX, rfl⟩ hltp;obtain ⟨u, hu⟩ := x;dsimp only at bX ⊢;have x0 := (bX.cell 0).trans rfl;have x1 := (bX.cell 1).trans rfl;have x2 := (bX.cell 2).trans rfl;have c0 := (i2.cell 0).trans rfl;have c1 := (i3.cell 0).trans rfl;have f1 := i3.frozen 0;have lX := bX.lt;have l1 := i2.lt;have l2 := i3.lt;have hNO := jQ (show ¬ (wd = u.one ∨ wd = u.many) -> SizI w wd (pre ++ [(⟨u, hu⟩ : Uo)]) W' from fun hno => ⟨fun v hv => by
   rw [List.map_append, List.mem_append] at hv;rcases hv with hv | hv
   ·exact i1 v hv
   simp only [List.map_cons, List.map_nil, List.mem_cons, List.not_mem_nil, or_false] at hv;rw [hv]; exact hno, i2, i3, i4⟩)
  have hYES := jQ (show (wd = u.one ∨ wd = u.many) -> KeepsFrom W0.heap.size W' (W'.setCell ⟨w.heap.size + 1, 0, none⟩ (.int .i64 u.size)) /\ SizX w wd .ret (pre ++ [(⟨u, hu⟩ : Uo)]) (W'.setCell ⟨w.heap.size + 1, 0, none⟩ (.int .i64 u.size)) from fun h =>
   ⟨(KeepsOthers.setCell _ _ _).from _, rfl, pre, ⟨u, hu⟩, rfl, i1, h, i3.set 0 _, i4.setCell (p := ⟨w.heap.size + 1, 0, none⟩) (by simp) _⟩)
  rcases h1 : (wd == u.one) with _ | _
  ·rcases h2 : (wd == u.many) with _ | _
   ·have HF := jQ (hNO.o (fun e => by rcases e with e | e <;> simp [e] at h1 h2));clear i1 i2 i3 i4 bX hNO hYES;gi_wp2_with (fail);exact ⟨⟨Nat.le_refl _, fun _ _ _ h _ => h⟩, trivial, HF.o⟩
   have HF := jQ (hYES.o (.inr (by simpa using h2)));clear i1 i2 i3 i4 bX hNO hYES;gi_wp2_with (fail);exact HF.o
  have HF := jQ (hYES.o (.inl (by simpa using h1)));clear i1 i2 i3 i4 bX hNO hYES;rcases h2 : (wd == u.many) with _ | _
  all_goals
   gi_wp2_with (fail);exact HF.o
 case done =>
  rintro D xs W' hD rfl ⟨i1, i2, i3, i4⟩ hKD;have hno := Cs.y95 i1;have HB4 := jQ i4;have HKD := jQ hKD;have HNO := jQ hno;clear i1 i2 i3 i4 hKD hno;gi_wp2_with (fail);refine y17 [D] _ (by simp) (fun E hE => by simp only [List.mem_cons, List.not_mem_nil, or_false] at hE; rw [hE]; exact HKD.o) (fun w' hw => ?_);refine ⟨Rdn.none_ HNO.o, ?_⟩;exact HB4.o.trans (hw.below HB4.o.size (fun j hj e => by simp only [List.mem_cons, List.not_mem_nil, or_false] at e; omega))
 rintro D c pre W' hD hSp ⟨rfl, pre', x, rfl, hno, hyes, k3, hB4⟩ hKD;obtain ⟨rest, hrest⟩ := hSp;have hsz : Cs.sizeF (us.map (·.1)) wd = some x.1.size := by
  rw [<- hrest];simp only [List.map_append, List.map_cons, List.map_nil, List.append_assoc, List.singleton_append];exact Cs.yBW hno hyes
 have c1 := (k3.cell 0).trans rfl;have l1 := k3.lt;have HB4 := jQ hB4;have HKD := jQ hKD;have HSZ := jQ hsz;have HK3 := jQ k3;clear hB4 hKD hsz k3 hno hyes hrest;gi_wp2_with (fail);refine y16 [D] _ (by simp) (fun E hE => by simp only [List.mem_cons, List.not_mem_nil, or_false] at hE; rw [hE]; exact HKD.o) (fun w' hw => ?_);have c9 := ((hw.bk HK3.o l1 (fun e => by simp only [List.mem_cons, List.not_mem_nil, or_false] at e; omega)).cell 0).trans rfl;refine ⟨_, y1S rfl _ _ _ _ rfl c9 Tryz.isAgg3, ?_⟩;refine ⟨Rdn.some_ HSZ.o, ?_⟩;exact HB4.o.trans (hw.below HB4.o.size (fun j hj e => by simp only [List.mem_cons, List.not_mem_nil, or_false] at e; omega))
end

section
open Go.RowKit Go.Shelf
def lastT (l : List Oper) (o : Oper) (p q : Nat) : Bool :=
 (l ++ [o]).all (fun x => x.guard.isNone) &&
 (List.range l.length).all (fun j => match l[j]? with | some x => x.after.all (fun e => decide (e.on < j)) | none => true) &&
 o.after.all (fun e => decide (e.on < l.length)) &&
 (List.range l.length).all (fun i => i == p || o.after.any (fun e => Region.binds .any e && e.on == i)) &&
 (decide (p < q) && decide (q < l.length)) &&
 (match l[q]? with | some x => x.after.any (fun e => Region.binds .any e && e.on == p) | none => false)
theorem y7j {L : Array Bool} {i j : Nat} (hj : j < L.size) : (L.setIfInBounds i true).getD j false = if i = j then true else L.getD j false := by
 have e : ∀ (M : Array Bool) (k : Nat), M.getD k false = (M[k]?).getD false := fun M k => by simp [Array.getD_eq_getD_getElem?]
 rw [e, e, Array.getElem?_setIfInBounds];by_cases h : i = j
 ·subst h;simp [hj]
 simp [h]
section
variable {P : Program} {Q : Exit -> Act -> World -> Prop} {l : List Oper} {o : Oper}
theorem y7a {p q : Nat} (hB : lastT l o p q = true) :
    ∀ (fuel : Nat) (listed : Array Bool) (a : Act) (w : World), listed.size = l.length -> (listed.getD q false = true -> listed.getD p false = true) -> wpAny P .any l.toArray (QLast P (l ++ [o]).toArray o Q) fuel listed a w -> wpAny P .any (l ++ [o]).toArray Q (fuel + 1) (listed.push false) a w := by
  simp only [lastT, Bool.and_eq_true, List.all_eq_true, List.mem_range, Bool.or_eq_true, beq_iff_eq, decide_eq_true_eq] at hB;obtain ⟨⟨⟨⟨⟨hg, hlt⟩, ho⟩, hs⟩, hpq⟩, hqp⟩ := hB;have hon : ∀ (j : Nat) (x : Oper), l[j]? = some x -> ∀ e ∈ x.after, e.on < j := fun j x hj e he => by
    have hjl : j < l.length := (List.getElem?_eq_some_iff.1 hj).1;have := hlt j hjl;rw [hj] at this;have := Array.all_eq_true_iff_forall_mem.1 this e he;simpa using this
  have hget : ∀ (L : Array Bool), L.size = l.length -> ∀ i, i < l.length -> ∀ d : Bool, (L.push false).getD i d = L.getD i d := fun L hL i hi d => by
    simp [Array.getD, hL, hi, Array.getElem_push, show i < l.length + 1 by omega]
  -- who is ready
  have hrd : ∀ (L : Array Bool), L.size = l.length -> ∀ i, i ∈ Region.ready .any (l ++ [o]).toArray (L.push false) -> i < l.length -> i ∈ Region.ready .any l.toArray L := fun L hL i hi hil => by
    obtain ⟨h1, x, hx, h2⟩ := mem_ready.1 hi;have hx' : l[i]? = some x := by simpa [List.getElem?_append_left hil] using hx
    refine mem_ready.2 ⟨by rw [hget L hL i hil] at h1; exact h1, x, by simpa using hx', fun e he hb => ?_⟩;have := h2 e he hb;rw [hget L hL _ (by have := hon i x hx' e he; omega)] at this;exact this
  have hrl : ∀ (L : Array Bool), L.size = l.length -> (L.getD q false = true -> L.getD p false = true) -> l.length ∈ Region.ready .any (l ++ [o]).toArray (L.push false) -> ∀ i, i < l.length -> L.getD i false = true := fun L hL hin hr i hi => by
    obtain ⟨h1, x, hx, h2⟩ := mem_ready.1 hr;have hx' : x = o := by simpa using hx.symm
    subst hx';have one : ∀ i, i < l.length -> i ≠ p -> L.getD i false = true := fun i hi hne => by
      have := (hs i hi).resolve_left hne;obtain ⟨e, he, hb⟩ := Array.any_eq_true'.1 this;simp only [Bool.and_eq_true, beq_iff_eq] at hb;have := h2 e he hb.1;rw [hb.2, hget L hL i hi] at this;exact this
    by_cases e : i = p
    · subst e
      exact hin (one q hpq.2 (by omega))
    exact one i hi e
  have hnone : ∀ (L : Array Bool), L.size = l.length -> Region.ready .any (l ++ [o]).toArray (L.push false) ≠ [] := fun L hL h0 => by
    -- the least that is not listed is ready
    have key : ∀ i, i <= l.length -> ∀ j, j < i -> L.getD j false = true := by
      intro i
      induction i with
      | zero => intro _ j hj; omega
      | succ i ih =>
        intro hi j hj;rcases Nat.lt_or_ge j i with e | e
        · exact ih (by omega) j e
        obtain rfl : j = i := by omega
        refine Classical.byContradiction fun hne => ?_;have hil : j < l.length := by omega
        have : j ∈ Region.ready .any (l ++ [o]).toArray (L.push false) := by
          refine mem_ready.2 ⟨?_, l[j], by simp [List.getElem?_append_left hil, hil], fun e he hb => ?_⟩
          · rw [hget L hL j hil]
            have : j < L.size := by omega
            simp [Array.getD, this] at hne ⊢;exact hne
          have hlt := hon j l[j] (by simp [hil]) e he;rw [hget L hL _ (by omega)];exact ih (by omega) _ hlt
        rw [h0] at this;cases this
    have hr : l.length ∈ Region.ready .any (l ++ [o]).toArray (L.push false) := by
      refine mem_ready.2 ⟨by rw [<- hL]; simp [Array.getD], o, by simp, fun e he hb => ?_⟩;have hlt : e.on < l.length := by simpa using Array.all_eq_true_iff_forall_mem.1 ho e he
      rw [hget L hL _ hlt];exact key l.length (Nat.le_refl _) _ hlt
    rw [h0] at hr;cases hr
  have hdone : ∀ (L : Array Bool), L.size = l.length -> (∀ i, i < l.length -> L.getD i false = true) -> Region.ready .any (l ++ [o]).toArray ((L.push false).setIfInBounds l.length true) = [] := fun L hL hall => by
    rw [List.eq_nil_iff_forall_not_mem];intro i hi;obtain ⟨h1, x, hx, _⟩ := mem_ready.1 hi;have hil : i < l.length + 1 := by simpa using (Array.getElem?_eq_some_iff.1 hx).1
    rcases Nat.lt_or_ge i l.length with e | e
    · have := hall i e
      have hi2 : i < L.size := by omega
      simp [Array.getD, hi2] at this;simp [Array.getD, hL, Array.getElem_setIfInBounds, Array.getElem_push, e, hil, this, show ¬ l.length = i by omega] at h1
    obtain rfl : i = l.length := by omega
    simp [Array.getD, hL] at h1
  have hlast : ∀ (L : Array Bool) (fuel : Nat) (a : Act) (w : World), L.size = l.length -> (∀ i, i < l.length -> L.getD i false = true) -> wpList P (l ++ [o]).toArray Q [o] a w -> wpOp P (l ++ [o]).toArray Q l.length (wpAny P .any (l ++ [o]).toArray Q fuel ((L.push false).setIfInBounds l.length true)) a w := fun L fuel a w hL hall hq => by
    have hd := hdone L hL hall;have hfin : ∀ a w, Q .normal a w -> wpAny P .any (l ++ [o]).toArray Q fuel ((L.push false).setIfInBounds l.length true) a w := fun a w h => by
      cases fuel with
      | zero => exact ⟨hd, h⟩
      | succ f => exact ⟨fun _ => h, by rw [hd]; simp⟩
    unfold wpOp;have e2 : (l ++ [o]).toArray[l.length]? = some o := by simp
    rw [e2];dsimp only;have hw := hg o (by simp);rw [if_pos (y15 hw _)];unfold wpList at hq;rw [if_pos (y15 hw _)] at hq;rcases hq with hq | hq
    · exact .inl (Oper.wp_mono (fun a w h => hfin a w h) hq)
    exact .inr hq
  intro fuel
  induction fuel with
  | zero =>
    intro listed a w hL hin h;refine ⟨fun h0 => absurd h0 (hnone listed hL), fun i hi => ?_⟩;have hil : i < l.length + 1 := by
      obtain ⟨_, x, hx, _⟩ := mem_ready.1 hi;simpa using (Array.getElem?_eq_some_iff.1 hx).1
    rcases Nat.lt_or_ge i l.length with e | e
    · have := hrd listed hL i hi e
      rw [h.1] at this;cases this
    obtain rfl : i = l.length := by omega
    exact hlast listed 0 a w hL (hrl listed hL hin hi) h.2
  | succ fuel ih =>
    intro listed a w hL hin h;refine ⟨fun h0 => absurd h0 (hnone listed hL), fun i hi => ?_⟩;have hil : i < l.length + 1 := by
      obtain ⟨_, x, hx, _⟩ := mem_ready.1 hi;simpa using (Array.getElem?_eq_some_iff.1 hx).1
    rcases Nat.lt_or_ge i l.length with e | e
    · refine y6Y hg e (fun a w k => ?_) (h.2 i (hrd listed hL i hi e))
      have hri := hrd listed hL i hi e;have hin2 : (listed.setIfInBounds i true).getD q false = true -> (listed.setIfInBounds i true).getD p false = true := by
        have hpl : p < listed.size := by omega
        have hql : q < listed.size := by omega
        intro h1;have hp : listed.getD p false = true -> (listed.setIfInBounds i true).getD p false = true := fun h => by
          rw [y7j hpl];by_cases e4 : i = p
          · rw [if_pos e4]
          rw [if_neg e4];exact h
        by_cases e2 : i = q
        · subst e2
          obtain ⟨_, x, hx, h3⟩ := mem_ready.1 hri;have hx' : l[i]? = some x := by simpa using hx
          have hqp' := hqp;rw [hx'] at hqp';obtain ⟨e3, he3, hb3⟩ := Array.any_eq_true'.1 hqp';simp only [Bool.and_eq_true, beq_iff_eq] at hb3;have := h3 e3 he3 hb3.1;rw [hb3.2] at this;exact hp this
        refine hp (hin ?_);rw [y7j hql, if_neg e2] at h1;exact h1
      have := ih (listed.setIfInBounds i true) a w (by simpa using hL) hin2 k;have he : (listed.setIfInBounds i true).push false = (listed.push false).setIfInBounds i true := by
        apply Array.ext_getElem?;intro j;simp only [Array.getElem?_push, Array.getElem?_setIfInBounds, Array.size_setIfInBounds, Array.size_push, hL];by_cases h1 : i = j
        · subst h1
          simp [e, show ¬ i = l.length by omega, show i < l.length + 1 by omega]
        by_cases h2 : j = l.length
        · subst h2; simp [h1, show ¬ i = l.length by omega]
        simp [h1, h2]
      rw [he] at this;exact this
    obtain rfl : i = l.length := by omega
    have hall := hrl listed hL hin hi;refine hlast listed _ a w hL hall (h.1 ?_);rw [List.eq_nil_iff_forall_not_mem];intro j hj;obtain ⟨h1, x, hx, _⟩ := mem_ready.1 hj;have hjl : j < l.length := by simpa using (Array.getElem?_eq_some_iff.1 hx).1
    have := hall j hjl;have hj2 : j < listed.size := by omega
    simp [Array.getD, hj2] at this h1;rw [this] at h1;cases h1
theorem y3e {id p q : Nat} {S : World -> Prop} {a : Act} {w : World} (l : List Oper) (o : Oper) (hm : P.follows .mixedOrders = true) (hB : lastT l o p q = true) (hS : S w.drew)
  (h : S w.drew -> wpAnyH P .any l.toArray (QLast P (l ++ [o]).toArray o Q) S l.length (Array.replicate l.length false) a w.drew) : (Code.region id (l ++ [o]).toArray true).wp P Q a w := by
 refine wp_region_any hm ?_;have h2 := y7a hB l.length (Array.replicate l.length false) a w.drew (by simp) (fun h => by simp [Array.getD] at h) (wpAny_of_held _ _ _ _ (h hS));have e : (Array.replicate l.length false).push false = Array.replicate (l ++ [o]).toArray.size false := by simp [Array.replicate_succ]
 rw [e] at h2;simpa using h2
theorem y2q {id p q : Nat} {S : World -> Prop} {a : Act} {w : World} {ops : Array Oper} {o : Oper} (n : Nat) (ho : ops[n]? = some o) (hn : ops.size = n + 1) (hm : P.follows .mixedOrders = true) (hB : lastT (ops.toList.take n) o p q = true) (hS : S w.drew)
  (h : S w.drew -> wpAnyH P .any (ops.toList.take n).toArray (QLast P ops o Q) S n (Array.replicate n false) a w.drew) : (Code.region id ops true).wp P Q a w := by
 have hl : (ops.toList.take n).length = n := by simp; omega
 have e : (ops.toList.take n ++ [o]).toArray = ops := by
  apply Array.ext_getElem?;intro i;rcases Nat.lt_or_ge i n with h1 | h1
  ·simp [List.getElem?_append_left (show i < (ops.toList.take n).length by omega), List.getElem?_take, h1]
  rcases Nat.lt_or_ge n i with h2 | h2
  ·rw [Array.getElem?_eq_none (by simp; omega), Array.getElem?_eq_none (by omega)]
  obtain rfl : i = n := by omega
  rw [ho];simp [List.getElem?_append_right (show (ops.toList.take i).length <= i by omega), hl]
 have h2 := y3e (Q := Q) (id := id) (S := S) (a := a) (w := w) (ops.toList.take n) o hm hB hS;rw [hl, e] at h2;exact h2 h
end
end
end Go.Proofs.YtccikcpcfdjobaaGreatDoor
