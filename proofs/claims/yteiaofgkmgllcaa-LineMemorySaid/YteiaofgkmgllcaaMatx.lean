/-
  The reference's Matrix: lesser, plus, a region's last operation, Matrix, span.
-/
import Derived.Test.YteiaofgkmgllcaaConR
import Derived.Test.YteiaofgkmgllcaaMtx
import Derived.Test.YteiaofgkmgllcaaBase
import Derived.Test.YteiaofgkmgllcaaBetw
set_option linter.unusedVariables false
set_option linter.unusedSimpArgs false
namespace Go.Proofs.Yteiaofgkmgllcaa
open Go.RowKit

def farV (x : Int × Bool) : Value := .agg #[.int .i64 x.1, .bool x.2]

set_option maxRecDepth 100000 in
set_option maxHeartbeats 400000 in
theorem lesser_any (a : Int) (p : Bool) (b : Int) (q : Bool) (w : World) :
    Calls Try.prog 69 #[.agg #[.int .i64 a, .bool p], .agg #[.int .i64 b, .bool q]] w fun e w' => e = .returned (.agg #[.int .i64 (Ln.lesserF (a, p) (b, q)).1, .bool (Ln.lesserF (a, p) (b, q)).2]) ∧ Below w.heap.size w w' := by
  have hB : ∀ o1 o2 o3 : Obj, Below w.heap.size w (((w.alloc o1).alloc o2).alloc o3) := fun o1 o2 o3 => (((Below.refl _ _).alloc (Nat.le_refl _) _).alloc (by simp) _).alloc (by simp; omega) _
  rcases p with _ | _
  · have hf : Ln.lesserF (a, false) (b, q) = (b, q) := by simp [Ln.lesserF]
    rw [hf]
    clear hf
    go_enter Try.func69, Try.ntmps69
    go_wp2_with fail
    exact bodyPost_ret (v := .agg #[.int .i64 b, .bool q]) (by simp [results, Try.results69, go_sem]) rfl ⟨rfl, hB _ _ _⟩
  · rcases q with _ | _
    · have hf : Ln.lesserF (a, true) (b, false) = (a, true) := by simp [Ln.lesserF]
      rw [hf]
      clear hf
      go_enter Try.func69, Try.ntmps69
      go_wp2_with fail
      exact bodyPost_ret (v := .agg #[.int .i64 a, .bool true]) (by simp [results, Try.results69, go_sem]) rfl ⟨rfl, hB _ _ _⟩
    · rcases hd : decide (b < a) with _ | _
      · have hf : Ln.lesserF (a, true) (b, true) = (a, true) := by rw [decide_eq_false_iff_not] at hd; simp [Ln.lesserF, hd]
        rw [hf]
        clear hf
        go_enter Try.func69, Try.ntmps69
        go_wp2_with fail
        exact bodyPost_ret (v := .agg #[.int .i64 a, .bool true]) (by simp [results, Try.results69, go_sem]) rfl ⟨rfl, hB _ _ _⟩
      · have hf : Ln.lesserF (a, true) (b, true) = (b, true) := by rw [decide_eq_true_iff] at hd; simp [Ln.lesserF, hd]
        rw [hf]
        clear hf
        go_enter Try.func69, Try.ntmps69
        go_wp2_with fail
        exact bodyPost_ret (v := .agg #[.int .i64 b, .bool true]) (by simp [results, Try.results69, go_sem]) rfl ⟨rfl, hB _ _ _⟩

set_option maxRecDepth 100000 in
set_option maxHeartbeats 400000 in
theorem plus_any (a : Int) (p : Bool) (n : Int) (h1 : -100000000000000000 ≤ a) (h2 : a ≤ 100000000000000000) (h3 : -100000000000000000 ≤ n) (h4 : n ≤ 100000000000000000) (w : World) :
    Calls Try.prog 70 #[.agg #[.int .i64 a, .bool p], .int .i64 n] w fun e w' => e = .returned (.agg #[.int .i64 (a + n), .bool p]) ∧ Below w.heap.size w w' := by
  have hB : ∀ o1 o2 : Obj, Below w.heap.size w ((w.alloc o1).alloc o2) := fun o1 o2 => ((Below.refl _ _).alloc (Nat.le_refl _) _).alloc (by simp) _
  go_enter Try.func70, Try.ntmps70
  go_wp2_with fail
  exact bodyPost_ret (v := .agg #[.int .i64 (a + n), .bool p]) (by simp [results, Try.results70, go_sem]) rfl ⟨rfl, hB _ _⟩

/-! ### Rows and the matrix -/
def fl (N : Nat) (r : Nat → Int × Bool) : List Value := (List.range N).flatMap fun b => [.int .i64 (r b).1, .bool (r b).2]
def fc (N : Nat) (r : Nat → Int × Bool) : Array Value := (fl N r).toArray
theorem fl_succ (N : Nat) (r : Nat → Int × Bool) : fl (N + 1) r = fl N r ++ [.int .i64 (r N).1, .bool (r N).2] := by simp [fl, List.range_succ]
theorem fl_length (N : Nat) (r : Nat → Int × Bool) : (fl N r).length = N * 2 := by
  induction N with
  | zero => rfl
  | succ N ih => rw [fl_succ, List.length_append, ih]; simp; omega
theorem fl_at {N : Nat} (r : Nat → Int × Bool) {b : Nat} (hb : b < N) : (fl N r)[b * 2]? = some (.int .i64 (r b).1) ∧ (fl N r)[b * 2 + 1]? = some (.bool (r b).2) := by
  induction N with
  | zero => omega
  | succ N ih =>
    rw [fl_succ]
    rcases Nat.lt_or_ge b N with h | h
    · rw [List.getElem?_append_left (by rw [fl_length]; omega), List.getElem?_append_left (by rw [fl_length]; omega)]
      exact ih h
    · obtain rfl : b = N := by omega
      rw [List.getElem?_append_right (by rw [fl_length]; omega), List.getElem?_append_right (by rw [fl_length]; omega), fl_length]
      simp
theorem fc_size (N : Nat) (r : Nat → Int × Bool) : (fc N r).size = N * 2 := by simp [fc, fl_length]
theorem fc_at {N : Nat} (r : Nat → Int × Bool) {b : Nat} (hb : b < N) : (fc N r)[b * 2]? = some (.int .i64 (r b).1) ∧ (fc N r)[b * 2 + 1]? = some (.bool (r b).2) := by
  simpa [fc] using fl_at r hb
theorem fc_set {N : Nat} (r : Nat → Int × Bool) {b : Nat} (hb : b < N) (x : Int) (q : Bool) :
    ((fc N r).setIfInBounds (b * 2) (.int .i64 x)).setIfInBounds (b * 2 + 1) (.bool q) = fc N (fun j => if j = b then (x, q) else r j) := by
  apply Array.ext_getElem?
  intro i
  rw [Array.getElem?_setIfInBounds, Array.getElem?_setIfInBounds, Array.size_setIfInBounds, fc_size]
  rcases Nat.lt_or_ge i (N * 2) with hi | hi
  · have hc : i / 2 < N := by omega
    obtain ⟨a1, a2⟩ := fc_at r hc
    obtain ⟨b1, b2⟩ := fc_at (fun j => if j = b then (x, q) else r j) hc
    rcases Nat.mod_two_eq_zero_or_one i with e | e
    · have hi2 : i / 2 * 2 = i := by omega
      rw [hi2] at a1 b1
      rw [if_neg (by omega), b1, a1]
      by_cases h : i / 2 = b
      · rw [if_pos (by omega), if_pos (by omega)]
        simp [h]
      · rw [if_neg (by omega)]
        simp [h]
    · have hi2 : i / 2 * 2 + 1 = i := by omega
      rw [hi2] at a2 b2
      rw [b2, a2]
      by_cases h : i / 2 = b
      · rw [if_pos (by omega), if_pos (by omega)]
        simp [h]
      · rw [if_neg (by omega), if_neg (by omega)]
        simp [h]
  · rw [if_neg (by omega), if_neg (by omega), Array.getElem?_eq_none (by rw [fc_size]; omega), Array.getElem?_eq_none (by rw [fc_size]; omega)]
theorem fc_zero (N : Nat) : madeCells #[.int .i64 0, .bool false] (N * 2) = fc N (fun _ => Ln.fr0) := by
  apply Array.ext_getElem?
  intro i
  unfold madeCells
  rcases Nat.lt_or_ge i (N * 2) with hi | hi
  · obtain ⟨b1, b2⟩ := fc_at (N := N) (fun _ => Ln.fr0) (b := i / 2) (by omega)
    rw [Array.getElem?_map, Array.getElem?_range, if_pos hi, Option.map_some, show (#[Value.int .i64 0, Value.bool false] : Array Value).size = 2 from rfl]
    rcases Nat.mod_two_eq_zero_or_one i with e | e
    · rw [show i / 2 * 2 = i by omega] at b1
      rw [b1, e]
      rfl
    · rw [show i / 2 * 2 + 1 = i by omega] at b2
      rw [b2, e]
      rfl
  · rw [Array.getElem?_eq_none (by simp; omega), Array.getElem?_eq_none (by rw [fc_size]; omega)]

def oc (N : Nat) (f : Nat → Value) : Array Value := ((List.range N).map f).toArray
theorem oc_at {N : Nat} (f : Nat → Value) {a : Nat} (ha : a < N) : (oc N f)[a]? = some (f a) := by simp [oc, ha]
theorem oc_set {N : Nat} (f : Nat → Value) {a : Nat} (v : Value) : (oc N f).setIfInBounds a v = oc N (fun i => if i = a then v else f i) := by
  apply Array.ext_getElem?
  intro i
  rw [Array.getElem?_setIfInBounds]
  by_cases h : a = i
  · subst h
    by_cases h2 : a < N <;> simp [oc, h2]
  · by_cases h2 : i < N <;> simp [oc, h2, h, show ¬ i = a from fun e => h e.symm]
theorem oc_made (N : Nat) : madeCells #[.slice none 0 0] (N * 1) = oc N (fun _ => .slice none 0 0) := by
  apply Array.ext_getElem?
  intro i
  unfold madeCells
  rw [Nat.mul_one]
  by_cases h : i < N
  · rw [Array.getElem?_map, Array.getElem?_range, if_pos h, Option.map_some, oc_at _ h, show (#[Value.slice none 0 0] : Array Value).size = 1 from rfl, Nat.mod_one]
    rfl
  · rw [Array.getElem?_eq_none (by simp; omega), Array.getElem?_eq_none (by simp [oc]; omega)]

/-- The matrix D: the outer list at G, row a at blk a. -/
structure MM (w : World) (G N : Nat) (blk : Nat → Nat) (D : Nat → Nat → Int × Bool) : Prop where
  out : Bk w G 71 (oc N (fun a => .slice (some ⟨blk a, 0, none⟩) N N))
  row : ∀ a, a < N → Bk w (blk a) 70 (fc N (D a))
/-- Rows are apart, and behind G. -/
structure Ap (G N : Nat) (blk : Nat → Nat) : Prop where
  inj : ∀ a b, a < N → b < N → blk a = blk b → a = b
  gt : ∀ a, a < N → G < blk a

section
variable {w w' : World} {G N : Nat} {blk : Nat → Nat} {D : Nat → Nat → Int × Bool}
theorem MM.cellO (h : MM w G N blk D) {a : Nat} (ha : a < N) : w.cell? ⟨G, a, none⟩ = some (.slice (some ⟨blk a, 0, none⟩) N N) := (h.out.cell a).trans (oc_at _ ha)
theorem MM.cells (h : MM w G N blk D) {a b : Nat} (ha : a < N) (hb : b < N) : w.cell? ⟨blk a, b * 2, none⟩ = some (.int .i64 (D a b).1) ∧ w.cell? ⟨blk a, b * 2 + 1, none⟩ = some (.bool (D a b).2) :=
  ⟨((h.row a ha).cell _).trans (fc_at _ hb).1, ((h.row a ha).cell _).trans (fc_at _ hb).2⟩
theorem MM.frozen (h : MM w G N blk D) {a : Nat} (ha : a < N) (i : Nat) : w.frozen? ⟨blk a, i, none⟩ = false := (h.row a ha).frozen i
theorem MM.below (h : MM w G N blk D) (hb : Below w.heap.size w w') : MM w' G N blk D :=
  ⟨h.out.below hb h.out.lt, fun a ha => (h.row a ha).below hb (h.row a ha).lt⟩
theorem MM.alloc (h : MM w G N blk D) (o : Obj) : MM (w.alloc o) G N blk D := ⟨h.out.alloc o, fun a ha => (h.row a ha).alloc o⟩
theorem MM.drewN (h : MM w G N blk D) (n : Nat) : MM (w.drewN n) G N blk D := ⟨h.out, fun a ha => h.row a ha⟩
theorem MM.far (h : MM w G N blk D) {p : Addr} (hG : G ≠ p.block) (hr : ∀ a, a < N → blk a ≠ p.block) (u : Value) : MM (w.setCell p u) G N blk D := ⟨h.out.far hG u, fun a ha => (h.row a ha).far (hr a ha) u⟩
theorem MM.set (h : MM w G N blk D) (k : Ap G N blk) {a b : Nat} (ha : a < N) (hb : b < N) (x : Int) (q : Bool) :
    MM ((w.setCell ⟨blk a, b * 2, none⟩ (.int .i64 x)).setCell ⟨blk a, b * 2 + 1, none⟩ (.bool q)) G N blk (Ln.up D a b (x, q)) := by
  have hG := k.gt a ha
  refine ⟨(h.out.far (by show G ≠ blk a; omega) _).far (by show G ≠ blk a; omega) _, fun i hi => ?_⟩
  by_cases e : i = a
  · subst e
    have := ((h.row i hi).set (b * 2) (.int .i64 x)).set (b * 2 + 1) (.bool q)
    rw [fc_set _ hb] at this
    have hr : (Ln.up D i b (x, q)) i = fun j => if j = b then (x, q) else D i j := by funext j; simp [Ln.up]
    rw [hr]
    exact this
  · have hne : blk i ≠ blk a := fun e2 => e (k.inj _ _ hi ha e2)
    have hr : (Ln.up D a b (x, q)) i = D i := by funext j; simp [Ln.up, e]
    rw [hr]
    exact ((h.row i hi).far hne _).far hne _
end

theorem infoR : (Try.prog.info? 71).map (fun i => (i.zero, i.size, i.bytes)) = some (some (.slice none 0 0), 1, 24) := by kernel_rfl
theorem infoF : (Try.prog.info? 70).map (fun i => (i.zero, i.size, i.bytes)) = some (some (.agg #[.int .i64 0, .bool false]), 2, 16) := by kernel_rfl

end Go.Proofs.Yteiaofgkmgllcaa

namespace Go.Proofs.Yteiaofgkmgllcaa
open Go.RowKit

/-- What is asked behind all operations but the last one. -/
def QLast (P : Program) (ops : Array Oper) (o : Oper) (Q : Exit → Act → World → Prop) : Exit → Act → World → Prop
  | .normal, a, w => wpList P ops Q [o] a w
  | .panic c, a, w => Q (.panic c) a w
  | .outgrown, a, w => Q .outgrown a w
  | _, _, _ => False

def lastB (l : List Oper) (o : Oper) : Bool :=
  (l ++ [o]).all (fun x => x.guard.isNone) &&
  (List.range l.length).all (fun j => match l[j]? with | some x => x.after.all (fun e => decide (e.on < j)) | none => true) &&
  o.after.all (fun e => decide (e.on < l.length)) &&
  (List.range l.length).all (fun i => o.after.any (fun e => Region.binds .any e && e.on == i))

section
variable {P : Program} {Q : Exit → Act → World → Prop} {l : List Oper} {o : Oper}

theorem wanted_free {x : Oper} (h : x.guard.isNone = true) (f : Nat → Option Bool) : Region.wanted x f = true := by
  unfold Region.wanted
  cases hg : x.guard with
  | none => rfl
  | some g => rw [hg] at h; cases h

theorem lets_last {ops : Array Oper} (h : LetsOut (QLast P ops o Q)) : LetsOut Q := h

theorem wpOp_last {ops : Array Oper} (hg : ∀ x ∈ l ++ [o], x.guard.isNone = true) {i : Nat} (hi : i < l.length) {K K' : Act → World → Prop} (hK : ∀ a w, K a w → K' a w) {a : Act} {w : World}
    (h : wpOp P l.toArray (QLast P ops o Q) i K a w) : wpOp P (l ++ [o]).toArray Q i K' a w := by
  unfold wpOp at h ⊢
  have e1 : l.toArray[i]? = some l[i] := by simp [hi]
  have e2 : (l ++ [o]).toArray[i]? = some l[i] := by simp [List.getElem?_append_left hi, hi]
  rw [e1] at h
  rw [e2]
  dsimp only at h ⊢
  have hw := hg l[i] (by simp)
  rw [if_pos (wanted_free hw _)] at h ⊢
  rcases h with h | h
  · left
    have h := Oper.wp_mono hK h
    unfold Oper.wp at h ⊢
    generalize (execOp a.eval l[i]).run P w = r at h ⊢
    cases r with
    | ok n w' =>
      cases n <;> simp only [Oper.upon] at h ⊢
      all_goals first | exact h | exact Calls.mono h fun e w'' he => by cases e <;> exact he
    | halt x w' =>
      cases x <;> simp only [Oper.upon] at h ⊢
      all_goals exact h
  · exact .inr ⟨h.1, h.2⟩

theorem wpAny_last (hB : lastB l o = true) :
    ∀ (fuel : Nat) (listed : Array Bool) (a : Act) (w : World), listed.size = l.length → wpAny P .any l.toArray (QLast P (l ++ [o]).toArray o Q) fuel listed a w → wpAny P .any (l ++ [o]).toArray Q (fuel + 1) (listed.push false) a w := by
  simp only [lastB, Bool.and_eq_true, List.all_eq_true, List.mem_range] at hB
  obtain ⟨⟨⟨hg, hlt⟩, ho⟩, hs⟩ := hB
  have hon : ∀ (j : Nat) (x : Oper), l[j]? = some x → ∀ e ∈ x.after, e.on < j := fun j x hj e he => by
    have hjl : j < l.length := (List.getElem?_eq_some_iff.1 hj).1
    have := hlt j hjl
    rw [hj] at this
    have := Array.all_eq_true_iff_forall_mem.1 this e he
    simpa using this
  have hget : ∀ (L : Array Bool), L.size = l.length → ∀ i, i < l.length → ∀ d : Bool, (L.push false).getD i d = L.getD i d := fun L hL i hi d => by
    simp [Array.getD, hL, hi, Array.getElem_push, show i < l.length + 1 by omega]
  -- who is ready
  have hrd : ∀ (L : Array Bool), L.size = l.length → ∀ i, i ∈ Region.ready .any (l ++ [o]).toArray (L.push false) → i < l.length → i ∈ Region.ready .any l.toArray L := fun L hL i hi hil => by
    obtain ⟨h1, x, hx, h2⟩ := mem_ready.1 hi
    have hx' : l[i]? = some x := by simpa [List.getElem?_append_left hil] using hx
    refine mem_ready.2 ⟨by rw [hget L hL i hil] at h1; exact h1, x, by simpa using hx', fun e he hb => ?_⟩
    have := h2 e he hb
    rw [hget L hL _ (by have := hon i x hx' e he; omega)] at this
    exact this
  have hrl : ∀ (L : Array Bool), L.size = l.length → l.length ∈ Region.ready .any (l ++ [o]).toArray (L.push false) → ∀ i, i < l.length → L.getD i false = true := fun L hL hr i hi => by
    obtain ⟨h1, x, hx, h2⟩ := mem_ready.1 hr
    have hx' : x = o := by simpa using hx.symm
    subst hx'
    have := hs i hi
    obtain ⟨e, he, hb⟩ := Array.any_eq_true'.1 this
    simp only [Bool.and_eq_true, beq_iff_eq] at hb
    have := h2 e he hb.1
    rw [hb.2, hget L hL i hi] at this
    exact this
  have hnone : ∀ (L : Array Bool), L.size = l.length → Region.ready .any (l ++ [o]).toArray (L.push false) ≠ [] := fun L hL h0 => by
    -- the least that is not listed is ready
    have key : ∀ i, i ≤ l.length → ∀ j, j < i → L.getD j false = true := by
      intro i
      induction i with
      | zero => intro _ j hj; omega
      | succ i ih =>
        intro hi j hj
        rcases Nat.lt_or_ge j i with e | e
        · exact ih (by omega) j e
        · obtain rfl : j = i := by omega
          refine Classical.byContradiction fun hne => ?_
          have hil : j < l.length := by omega
          have : j ∈ Region.ready .any (l ++ [o]).toArray (L.push false) := by
            refine mem_ready.2 ⟨?_, l[j], by simp [List.getElem?_append_left hil, hil], fun e he hb => ?_⟩
            · rw [hget L hL j hil]
              have : j < L.size := by omega
              simp [Array.getD, this] at hne ⊢
              exact hne
            · have hlt := hon j l[j] (by simp [hil]) e he
              rw [hget L hL _ (by omega)]
              exact ih (by omega) _ hlt
          rw [h0] at this
          cases this
    have hr : l.length ∈ Region.ready .any (l ++ [o]).toArray (L.push false) := by
      refine mem_ready.2 ⟨by rw [← hL]; simp [Array.getD], o, by simp, fun e he hb => ?_⟩
      have hlt : e.on < l.length := by simpa using Array.all_eq_true_iff_forall_mem.1 ho e he
      rw [hget L hL _ hlt]
      exact key l.length (Nat.le_refl _) _ hlt
    rw [h0] at hr
    cases hr
  have hdone : ∀ (L : Array Bool), L.size = l.length → (∀ i, i < l.length → L.getD i false = true) → Region.ready .any (l ++ [o]).toArray ((L.push false).setIfInBounds l.length true) = [] := fun L hL hall => by
    rw [List.eq_nil_iff_forall_not_mem]
    intro i hi
    obtain ⟨h1, x, hx, _⟩ := mem_ready.1 hi
    have hil : i < l.length + 1 := by simpa using (Array.getElem?_eq_some_iff.1 hx).1
    rcases Nat.lt_or_ge i l.length with e | e
    · have := hall i e
      have hi2 : i < L.size := by omega
      simp [Array.getD, hi2] at this
      simp [Array.getD, hL, Array.getElem_setIfInBounds, Array.getElem_push, e, hil, this, show ¬ l.length = i by omega] at h1
    · obtain rfl : i = l.length := by omega
      simp [Array.getD, hL] at h1
  have hlast : ∀ (L : Array Bool) (fuel : Nat) (a : Act) (w : World), L.size = l.length → (∀ i, i < l.length → L.getD i false = true) → wpList P (l ++ [o]).toArray Q [o] a w → wpOp P (l ++ [o]).toArray Q l.length (wpAny P .any (l ++ [o]).toArray Q fuel ((L.push false).setIfInBounds l.length true)) a w := fun L fuel a w hL hall hq => by
    have hd := hdone L hL hall
    have hfin : ∀ a w, Q .normal a w → wpAny P .any (l ++ [o]).toArray Q fuel ((L.push false).setIfInBounds l.length true) a w := fun a w h => by
      cases fuel with
      | zero => exact ⟨hd, h⟩
      | succ f => exact ⟨fun _ => h, by rw [hd]; simp⟩
    unfold wpOp
    have e2 : (l ++ [o]).toArray[l.length]? = some o := by simp
    rw [e2]
    dsimp only
    have hw := hg o (by simp)
    rw [if_pos (wanted_free hw _)]
    unfold wpList at hq
    rw [if_pos (wanted_free hw _)] at hq
    rcases hq with hq | hq
    · exact .inl (Oper.wp_mono (fun a w h => hfin a w h) hq)
    · exact .inr hq
  intro fuel
  induction fuel with
  | zero =>
    intro listed a w hL h
    refine ⟨fun h0 => absurd h0 (hnone listed hL), fun i hi => ?_⟩
    have hil : i < l.length + 1 := by
      obtain ⟨_, x, hx, _⟩ := mem_ready.1 hi
      simpa using (Array.getElem?_eq_some_iff.1 hx).1
    rcases Nat.lt_or_ge i l.length with e | e
    · have := hrd listed hL i hi e
      rw [h.1] at this
      cases this
    · obtain rfl : i = l.length := by omega
      exact hlast listed 0 a w hL (hrl listed hL hi) h.2
  | succ fuel ih =>
    intro listed a w hL h
    refine ⟨fun h0 => absurd h0 (hnone listed hL), fun i hi => ?_⟩
    have hil : i < l.length + 1 := by
      obtain ⟨_, x, hx, _⟩ := mem_ready.1 hi
      simpa using (Array.getElem?_eq_some_iff.1 hx).1
    rcases Nat.lt_or_ge i l.length with e | e
    · refine wpOp_last hg e (fun a w k => ?_) (h.2 i (hrd listed hL i hi e))
      have := ih (listed.setIfInBounds i true) a w (by simpa using hL) k
      have he : (listed.setIfInBounds i true).push false = (listed.push false).setIfInBounds i true := by
        apply Array.ext_getElem?
        intro j
        simp only [Array.getElem?_push, Array.getElem?_setIfInBounds, Array.size_setIfInBounds, Array.size_push, hL]
        by_cases h1 : i = j
        · subst h1
          simp [e, show ¬ i = l.length by omega, show i < l.length + 1 by omega]
        · by_cases h2 : j = l.length
          · subst h2; simp [h1, show ¬ i = l.length by omega]
          · simp [h1, h2]
      rw [he] at this
      exact this
    · obtain rfl : i = l.length := by omega
      have hall := hrl listed hL hi
      refine hlast listed _ a w hL hall (h.1 ?_)
      rw [List.eq_nil_iff_forall_not_mem]
      intro j hj
      obtain ⟨h1, x, hx, _⟩ := mem_ready.1 hj
      have hjl : j < l.length := by simpa using (Array.getElem?_eq_some_iff.1 hx).1
      have := hall j hjl
      have hj2 : j < listed.size := by omega
      simp [Array.getD, hj2] at this h1
      rw [this] at h1
      cases h1

theorem wp_region_last {id : Nat} {S : World → Prop} {a : Act} {w : World} (l : List Oper) (o : Oper) (hm : P.follows .mixedOrders = true) (hB : lastB l o = true) (hS : S w.drew)
    (h : S w.drew → wpAnyH P .any l.toArray (QLast P (l ++ [o]).toArray o Q) S l.length (Array.replicate l.length false) a w.drew) : (Code.region id (l ++ [o]).toArray true).wp P Q a w := by
  refine wp_region_any hm ?_
  have h2 := wpAny_last hB l.length (Array.replicate l.length false) a w.drew (by simp) (wpAny_of_held _ _ _ _ (h hS))
  have e : (Array.replicate l.length false).push false = Array.replicate (l ++ [o]).toArray.size false := by simp [Array.replicate_succ]
  rw [e] at h2
  simpa using h2

/-- As a walk meets it: the operations as they stand; n: how many come before the last. -/
theorem wp_region_last2 {id : Nat} {S : World → Prop} {a : Act} {w : World} {ops : Array Oper} {o : Oper} (n : Nat) (ho : ops[n]? = some o) (hn : ops.size = n + 1) (hm : P.follows .mixedOrders = true) (hB : lastB (ops.toList.take n) o = true) (hS : S w.drew)
    (h : S w.drew → wpAnyH P .any (ops.toList.take n).toArray (QLast P ops o Q) S n (Array.replicate n false) a w.drew) : (Code.region id ops true).wp P Q a w := by
  have hl : (ops.toList.take n).length = n := by simp; omega
  have e : (ops.toList.take n ++ [o]).toArray = ops := by
    apply Array.ext_getElem?
    intro i
    rcases Nat.lt_or_ge i n with h1 | h1
    · simp [List.getElem?_append_left (show i < (ops.toList.take n).length by omega), List.getElem?_take, h1]
    · rcases Nat.lt_or_ge n i with h2 | h2
      · rw [Array.getElem?_eq_none (by simp; omega), Array.getElem?_eq_none (by omega)]
      · obtain rfl : i = n := by omega
        rw [ho]
        simp [List.getElem?_append_right (show (ops.toList.take i).length ≤ i by omega), hl]
  have h2 := wp_region_last (Q := Q) (id := id) (S := S) (a := a) (w := w) (ops.toList.take n) o hm hB hS
  rw [hl, e] at h2
  exact h2 h
end

end Go.Proofs.Yteiaofgkmgllcaa

namespace Go.Proofs.Yteiaofgkmgllcaa
open Go.RowKit

theorem cell_far (w : World) (p : Addr) (v : Value) (i : Nat) {g : Nat} (h : g ≠ p.block) : (w.setCell p v).cell? ⟨g, i, none⟩ = w.cell? ⟨g, i, none⟩ := by
  have := Below.heap_setCell w p v g h
  simp only [World.cell?, this]

/-- The matrix while its rows are laid: k of them. -/
structure MP (w : World) (G N k : Nat) (blk : Nat → Nat) : Prop where
  out : Bk w G 71 (oc N (fun a => if a < k then .slice (some ⟨blk a, 0, none⟩) N N else .slice none 0 0))
  row : ∀ a, a < k → Bk w (blk a) 70 (fc N (Ln.diag a))
  ap : Ap G k blk

set_option maxRecDepth 100000 in
set_option maxHeartbeats 4000000 in
theorem matrix_any {N : Nat} {bs : List Ln.Bd} (hok : Ln.Ok N bs) (hl : ∀ b ∈ bs, b.gone = false) (hNN : Ln.NoNeg bs) (h14 : N ≤ 14) (A : Option Addr) (c : Nat) (w : World) (hR : Rd w w.heap.size 4 A bs.length (bcells bs)) :
    Calls Try.prog 81 #[.agg #[.int .i64 N, .slice A bs.length c]] w fun e w' => ∃ G blk, e = .returned (.slice (some ⟨G, 0, none⟩) N N) ∧ MM w' G N blk (Ln.mtx bs N) ∧ Ap G N blk ∧ w.heap.size ≤ G ∧ Below w.heap.size w w' := by
  obtain ⟨i0, hi0, hz0, hz1, hz2⟩ := info_parts infoR
  obtain ⟨i1, hi1, hy0, hy1, hy2⟩ := info_parts infoF
  have hlen := hok.len
  have htop := hok.top
  have hpos := hok.pos
  have hB0 : Below w.heap.size w (w.alloc (.cells #[.int .i64 N, .slice A bs.length c] 24)) := (Below.refl _ _).alloc (Nat.le_refl _) _
  have k0 := Bk.new w 24 #[.int .i64 N, .slice A bs.length c]
  have hB1 := hB0.alloc hB0.size (.cells (oc N (fun _ => .slice none 0 0)) 71)
  have k1 := k0.alloc (.cells (oc N (fun _ => .slice none 0 0)) 71)
  have kG := Bk.new (w.alloc (.cells #[.int .i64 N, .slice A bs.length c] 24)) 71 (oc N (fun _ => .slice none 0 0))
  rw [World.size_alloc] at kG
  go_enter Try.func81, Try.ntmps81
  go_wp2_with (refine wpList_make_exact _ rfl _ _ 67 rfl 71 i0 _ 1 24 Try.underlying67 hi0 hz0 hz1 hz2 N rfl rfl (by omega) (by omega) (oc N (fun _ => .slice none 0 0)) (oc_made N) ?_)
  obtain ⟨sb, hsb⟩ : ∃ sb, w.heap.size = sb := ⟨_, rfl⟩
  obtain ⟨G, hG⟩ : ∃ G, sb + 1 = G := ⟨_, rfl⟩
  obtain ⟨W1, hW1⟩ : ∃ W1, (w.alloc (.cells #[.int .i64 N, .slice A bs.length c] 24)).alloc (.cells (oc N (fun _ => .slice none 0 0)) 71) = W1 := ⟨_, rfl⟩
  simp only [hsb, hG] at kG k1 hB1 hR ⊢
  rw [hW1] at kG k1 hB1 ⊢
  clear k0 hB0 hW1
  go_loopw [4] (fun i wr => ∃ (k : Nat) (blk : Nat → Nat), k ≤ N ∧ i = .int .i64 k ∧ Bk wr sb 24 #[.int .i64 N, .slice A bs.length c] ∧ MP wr G N k blk ∧ Below sb w wr)
    (fun i _ => N - (intOf i).toNat)
  case atStart => exact ⟨0, (fun _ => 0), Nat.zero_le _, rfl, k1, ⟨by simpa using kG, fun a ha => by omega, ⟨fun a b ha => by omega, fun a ha => by omega⟩⟩, hB1⟩
  case round =>
    clear kG k1 hB1
    obtain ⟨k, blk, hk, rfl, k1, hM, hB⟩ := hrel
    have c0 := k1.cell 0
    simp only [List.getElem?_toArray, List.getElem?_cons_zero, List.getElem?_cons_succ] at c0
    have hs1 := k1.lt
    have hGl := hM.out.lt
    by_cases hkl : k < N
    · have hk0 : (0 : Int) ≤ (k : Int) := Int.natCast_nonneg _
      have hkN : (k : Int) < (N : Int) := by omega
      have cO := (hM.out.cell k).trans (oc_at _ hkl)
      have fO := hM.out.frozen k
      simp only [if_neg (Nat.lt_irrefl k)] at cO
      go_upto_region 6 with (refine wpList_make_exact _ rfl _ _ 71 rfl 70 i1 _ 2 16 Try.underlying71 hi1 hy0 hy1 hy2 N rfl rfl (by omega) (by omega) (fc N (fun _ => Ln.fr0)) (fc_zero N) ?_)
      obtain ⟨h, hh⟩ : ∃ h, wr.heap.size = h := ⟨_, rfl⟩
      have k2 := (k1.far (p := ⟨G, k, none⟩) (by simp; omega) (.slice (some ⟨h, 0, none⟩) N N)).alloc (.cells (fc N (fun _ => Ln.fr0)) 70)
      have g2 := (hM.out.set k (.slice (some ⟨h, 0, none⟩) N N)).alloc (.cells (fc N (fun _ => Ln.fr0)) 70)
      have r2 := Bk.new (wr.setCell ⟨G, k, none⟩ (.slice (some ⟨h, 0, none⟩) N N)) 70 (fc N (fun _ => Ln.fr0))
      rw [size_setCell] at r2
      have o2 : ∀ a, a < k → Bk ((wr.setCell ⟨G, k, none⟩ (.slice (some ⟨h, 0, none⟩) N N)).alloc (.cells (fc N (fun _ => Ln.fr0)) 70)) (blk a) 70 (fc N (Ln.diag a)) := fun a ha => ((hM.row a ha).far (by have := hM.ap.gt a ha; simp; omega) _).alloc _
      have hB2 := (hB.setCell (p := ⟨G, k, none⟩) (by simp; omega) (.slice (some ⟨h, 0, none⟩) N N)).alloc (by rw [size_setCell]; omega) (.cells (fc N (fun _ => Ln.fr0)) 70)
      have hbl : ∀ a, a < k → blk a < h := fun a ha => by have := (hM.row a ha).lt; omega
      rw [hh] at r2 ⊢
      obtain ⟨W2, hW2⟩ : ∃ W2, (wr.setCell ⟨G, k, none⟩ (.slice (some ⟨h, 0, none⟩) N N)).alloc (.cells (fc N (fun _ => Ln.fr0)) 70) = W2 := ⟨_, rfl⟩
      rw [hW2] at k2 g2 r2 hB2 ⊢
      simp only [hW2] at o2
      rw [oc_set] at g2
      have cG := (g2.cell k).trans (oc_at _ hkl)
      simp only [if_true] at cG
      have cs0 := k2.cell 0
      simp only [List.getElem?_toArray, List.getElem?_cons_zero, List.getElem?_cons_succ] at cs0
      obtain ⟨d0, d1⟩ := fc_at (N := N) (fun _ => Ln.fr0) hkl
      have e0 := (r2.cell (k * 2)).trans d0
      have e1 := (r2.cell (k * 2 + 1)).trans d1
      have f0 := r2.frozen (k * 2)
      have f1 := r2.frozen (k * 2 + 1)
      have r3 := (r2.set (k * 2) (.int .i64 0)).set (k * 2 + 1) (.bool true)
      rw [fc_set _ hkl] at r3
      have hG2 := g2.lt
      have hh2 := r2.lt
      have hap := hM.ap
      have REL := Lib.hid (And.intro k2 (And.intro g2 (And.intro r3 (And.intro o2 (And.intro hB2 (And.intro hap hbl))))))
      clear k2 g2 r3 o2 hB2 hap hbl r2 hM hB k1 c0 cO fO hW2 d0 d1
      go_wp2_with fail
      go_roundw
      case rel =>
        obtain ⟨k2, g2, r3, o2, hB2, hap, hbl⟩ := REL.out
        refine ⟨k + 1, (fun i => if i = k then h else blk i), by omega, by go_num, (k2.far (by simp; omega) _).far (by simp; omega) _, ⟨?_, fun a ha => ?_, ⟨fun a b ha hb e => ?_, fun a ha => ?_⟩⟩, (hB2.setCell (by simp; omega) _).setCell (by simp; omega) _⟩
        · have hf : (fun a => if a < k + 1 then Value.slice (some ⟨if a = k then h else blk a, 0, none⟩) N N else Value.slice none 0 0) = (fun i => if i = k then Value.slice (some ⟨h, 0, none⟩) N N else if i < k then Value.slice (some ⟨blk i, 0, none⟩) N N else Value.slice none 0 0) := by
            funext a
            by_cases e : a = k
            · subst e; simp
            · by_cases e2 : a < k
              · rw [if_pos (by omega), if_neg e, if_neg e, if_pos e2]
              · rw [if_neg (by omega), if_neg e, if_neg e2]
          rw [hf]
          exact (g2.far (by simp; omega) _).far (by simp; omega) _
        · by_cases e : a = k
          · subst e
            rw [if_pos rfl]
            have hf : Ln.diag a = (fun j => if j = a then ((0 : Int), true) else Ln.fr0) := by
              funext j
              unfold Ln.diag
              by_cases e2 : a = j
              · subst e2; simp
              · rw [if_neg e2, if_neg (fun e3 => e2 e3.symm)]
            rw [hf]
            exact r3
          · rw [if_neg e]
            have ha2 : a < k := by omega
            have := hbl a ha2
            exact ((o2 a ha2).far (by simp; omega) _).far (by simp; omega) _
        · by_cases e1 : a = k
          · by_cases e2 : b = k
            · omega
            · rw [if_pos e1, if_neg e2] at e
              have := hbl b (by omega)
              omega
          · by_cases e2 : b = k
            · rw [if_neg e1, if_pos e2] at e
              have := hbl a (by omega)
              omega
            · rw [if_neg e1, if_neg e2] at e
              exact hap.inj a b (by omega) (by omega) e
        · split
          · omega
          · exact hap.gt a (by omega)
      case measure => simp [intOf]; omega
    · obtain rfl : k = N := by omega
      have hM2 : MM wr G k blk (Ln.edK bs 0) := by
        refine ⟨?_, fun a ha => hM.row a ha⟩
        have h1 := hM.out
        have hf : oc k (fun a => if a < k then Value.slice (some ⟨blk a, 0, none⟩) k k else Value.slice none 0 0) = oc k (fun a => .slice (some ⟨blk a, 0, none⟩) k k) := by
          unfold oc
          congr 1
          apply List.map_congr_left
          intro a ha
          rw [if_pos (List.mem_range.1 ha)]
        rw [hf] at h1
        exact h1
      have hap := hM.ap
      clear hM
      have HAP := Lib.hid hap
      have hgt := hap.gt
      clear hap
      go_wp2_with fail
      go_loopw [5] (fun i wr => ∃ j : Nat, j ≤ bs.length ∧ i = .int .i64 j ∧ Bk wr sb 24 #[.int .i64 k, .slice A bs.length c] ∧ MM wr G k blk (Ln.edK bs j) ∧ Below sb w wr)
        (fun i _ => bs.length - (intOf i).toNat)
      case atStart => exact ⟨0, Nat.zero_le _, rfl, k1, hM2, hB⟩
      case round =>
        clear k1 hM2 hB c0
        obtain ⟨j, hj, rfl, k1, hM, hB⟩ := hrel
        have c1 := k1.cell 1
        simp only [List.getElem?_toArray, List.getElem?_cons_zero, List.getElem?_cons_succ] at c1
        have hs1 := k1.lt
        by_cases hjl : j < bs.length
        · obtain ⟨b, off, hA, hb, e0, e1, e2, e3⟩ := (hR.below hB (by omega)).bound hjl
          subst hA
          rw [← Ln.bd_eq hjl] at e0 e1 e2 e3
          have hof := hok.each _ (Ln.bd_mem hjl)
          have hstep := Ln.edK_succ bs j
          obtain ⟨p, hp⟩ : ∃ p : Nat, (Ln.bd bs j).f = p := ⟨(Ln.bd bs j).f.toNat, by omega⟩
          obtain ⟨q, hq⟩ : ∃ q : Nat, (Ln.bd bs j).t = q := ⟨(Ln.bd bs j).t.toNat, by omega⟩
          obtain ⟨m, hm⟩ : ∃ m, (Ln.bd bs j).m = m := ⟨_, rfl⟩
          rw [Ln.edS, hp, hq, hm] at hstep
          simp only [Int.toNat_natCast] at hstep
          rw [hp] at e0 hof
          rw [hq] at e1 hof
          rw [hm] at e2
          have hpN : p < k := by omega
          have hqN : q < k := by omega
          obtain ⟨D, hD⟩ : ∃ D, Ln.edK bs j = D := ⟨_, rfl⟩
          rw [hD] at hM hstep
          have hbW : b < wr.heap.size := by have := hB.size; omega
          have hpi : (p : Int) < (k : Int) := by omega
          have hqi : (q : Int) < (k : Int) := by omega
          have HM := Lib.hid hM
          have HST := Lib.hid hstep
          clear hp hq hm hD hof hstep hM
          go_upto_region 11 with fail
          obtain ⟨h, hh⟩ : ∃ h, wr.heap.size = h := ⟨_, rfl⟩
          have kx := Bk.new wr 50 #[.int .i64 p, .int .i64 q, .int .i64 m, .int .i64 (Ln.bd bs j).r]
          have hM2 := HM.out.alloc (.cells #[.int .i64 p, .int .i64 q, .int .i64 m, .int .i64 (Ln.bd bs j).r] 50)
          have k2 := k1.alloc (.cells #[.int .i64 p, .int .i64 q, .int .i64 m, .int .i64 (Ln.bd bs j).r] 50)
          have hB2 := hB.alloc (by omega) (.cells #[.int .i64 p, .int .i64 q, .int .i64 m, .int .i64 (Ln.bd bs j).r] 50)
          obtain ⟨wX, hwX⟩ : ∃ wX, wr.alloc (.cells #[.int .i64 p, .int .i64 q, .int .i64 m, .int .i64 (Ln.bd bs j).r] 50) = wX := ⟨_, rfl⟩
          rw [hh] at kx ⊢
          rw [hwX] at kx hM2 k2 hB2 ⊢
          clear k1 hB e0 e1 e2 e3
          obtain ⟨⟨x, y⟩, hxy⟩ : ∃ z, D p q = z := ⟨_, rfl⟩
          obtain ⟨u, hu⟩ : ∃ u, Ln.lesserF (x, y) (m, true) = u := ⟨_, rfl⟩
          have hst := HST.out
          rw [hxy, hu] at hst
          have cc := hM2.cells hpN hqN
          rw [hxy] at cc
          dsimp only at cc
          obtain ⟨d0, d1⟩ := cc
          have dO := hM2.cellO hpN
          have x0 := kx.cell 0
          have x1 := kx.cell 1
          have x2 := kx.cell 2
          simp only [List.getElem?_toArray, List.getElem?_cons_zero, List.getElem?_cons_succ] at x0 x1 x2
          have lG := hM2.out.lt
          have lp := (hM2.row p hpN).lt
          have lx := kx.lt
          have hSB : ∀ W, Below wX.heap.size wX W → ((W.cell? ⟨G, p, none⟩ = some (.slice (some ⟨blk p, 0, none⟩) k k) ∧ W.cell? ⟨blk p, q * 2, none⟩ = some (.int .i64 x)) ∧ W.cell? ⟨blk p, q * 2 + 1, none⟩ = some (.bool y)) ∧ (W.cell? ⟨h, 0, none⟩ = some (.int .i64 p) ∧ W.cell? ⟨h, 1, none⟩ = some (.int .i64 q)) ∧ W.cell? ⟨h, 2, none⟩ = some (.int .i64 m) := fun W hb =>
            ⟨⟨⟨(hb.cell (p := ⟨G, p, none⟩) lG).trans dO, (hb.cell (p := ⟨blk p, q * 2, none⟩) lp).trans d0⟩, (hb.cell (p := ⟨blk p, q * 2 + 1, none⟩) lp).trans d1⟩, ⟨(hb.cell (p := ⟨h, 0, none⟩) lx).trans x0, (hb.cell (p := ⟨h, 1, none⟩) lx).trans x1⟩, (hb.cell (p := ⟨h, 2, none⟩) lx).trans x2⟩
          have hgp := hgt p hpN
          have hles := fun w => lesser_any x y m true w
          rw [hu] at hles
          have HSB := Lib.hid hSB
          have HLES := Lib.hid hles
          have HM2 := Lib.hid hM2
          have K2 := Lib.hid k2
          have HB2 := Lib.hid hB2
          clear hSB hles hM2 k2 hB2 hu hxy kx HST hwX hh HM d0 d1 x0 x1 x2 dO
          have HST := Lib.hid hst
          clear hst
          refine wp_region_last2 (S := fun W => ((W.cell? ⟨G, p, none⟩ = some (.slice (some ⟨blk p, 0, none⟩) k k) ∧ W.cell? ⟨blk p, q * 2, none⟩ = some (.int .i64 x)) ∧ W.cell? ⟨blk p, q * 2 + 1, none⟩ = some (.bool y)) ∧ (W.cell? ⟨h, 0, none⟩ = some (.int .i64 p) ∧ W.cell? ⟨h, 1, none⟩ = some (.int .i64 q)) ∧ W.cell? ⟨h, 2, none⟩ = some (.int .i64 m)) 21 rfl rfl (by kernel_rfl) (by kernel_rfl) (HSB.out _ (Below.refl _ wX).drew) (fun hHeld => ?_)
          simp only [List.take_succ_cons, List.take_zero]
          refine wpAnyH_take (i := 0) (v := ?_) rfl (by kernel_rfl) (by kernel_rfl) (by kernel_rfl) (fun _ _ _ h => h) (Or.inl ⟨by rfl, ?_⟩) (by assumption) ?_
          rotate_left
          · (intro w hSw; (try dsimp only at hSw); go_simp <;> with_reducible rfl)
          (try simp only [Act.put, List.setIfInBounds_toArray, List.set_cons_zero, List.set_cons_succ])
          refine wpAnyH_take (i := 1) (v := ?_) rfl (by kernel_rfl) (by kernel_rfl) (by kernel_rfl) (fun _ _ _ h => h) (Or.inl ⟨by rfl, ?_⟩) (by assumption) ?_
          rotate_left
          · (intro w hSw; (try dsimp only at hSw); go_simp <;> with_reducible rfl)
          (try simp only [Act.put, List.setIfInBounds_toArray, List.set_cons_zero, List.set_cons_succ])
          refine wpAnyH_take (i := 2) (v := ?_) rfl (by kernel_rfl) (by kernel_rfl) (by kernel_rfl) (fun _ _ _ h => h) (Or.inl ⟨by rfl, ?_⟩) (by assumption) ?_
          rotate_left
          · (intro w hSw; (try dsimp only at hSw); go_simp <;> with_reducible rfl)
          (try simp only [Act.put, List.setIfInBounds_toArray, List.set_cons_zero, List.set_cons_succ])
          refine wpAnyH_take (i := 3) (v := ?_) rfl (by kernel_rfl) (by kernel_rfl) (by kernel_rfl) (fun _ _ _ h => h) (Or.inl ⟨by rfl, ?_⟩) (by assumption) ?_
          rotate_left
          · (intro w hSw; (try dsimp only at hSw); go_simp <;> with_reducible rfl)
          (try simp only [Act.put, List.setIfInBounds_toArray, List.set_cons_zero, List.set_cons_succ])
          refine wpAnyH_take (i := 4) (v := ?_) rfl (by kernel_rfl) (by kernel_rfl) (by kernel_rfl) (fun _ _ _ h => h) (Or.inl ⟨by rfl, ?_⟩) (by assumption) ?_
          rotate_left
          · (intro w hSw; (try dsimp only at hSw); go_simp <;> with_reducible rfl)
          (try simp only [Act.put, List.setIfInBounds_toArray, List.set_cons_zero, List.set_cons_succ])
          refine wpAnyH_take (i := 5) (v := ?_) rfl (by kernel_rfl) (by kernel_rfl) (by kernel_rfl) (fun _ _ _ h => h) (Or.inl ⟨by rfl, ?_⟩) (by assumption) ?_
          rotate_left
          · (intro w hSw; (try dsimp only at hSw); go_simp <;> with_reducible rfl)
          (try simp only [Act.put, List.setIfInBounds_toArray, List.set_cons_zero, List.set_cons_succ])
          refine wpAnyH_take (i := 6) (v := ?_) rfl (by kernel_rfl) (by kernel_rfl) (by kernel_rfl) (fun _ _ _ h => h) (Or.inl ⟨by rfl, ?_⟩) (by assumption) ?_
          rotate_left
          · (intro w hSw; (try dsimp only at hSw); go_simp <;> with_reducible rfl)
          (try simp only [Act.put, List.setIfInBounds_toArray, List.set_cons_zero, List.set_cons_succ])
          refine wpAnyH_take (i := 7) (v := ?_) rfl (by kernel_rfl) (by kernel_rfl) (by kernel_rfl) (fun _ _ _ h => h) (Or.inl ⟨by rfl, ?_⟩) (by assumption) ?_
          rotate_left
          · (intro w hSw; (try dsimp only at hSw); go_simp <;> with_reducible rfl)
          (try simp only [Act.put, List.setIfInBounds_toArray, List.set_cons_zero, List.set_cons_succ])
          refine wpAnyH_take (i := 8) (v := ?_) rfl (by kernel_rfl) (by kernel_rfl) (by kernel_rfl) (fun _ _ _ h => h) (Or.inl ⟨by rfl, ?_⟩) (by assumption) ?_
          rotate_left
          · (intro w hSw; (try dsimp only at hSw); go_simp <;> with_reducible rfl)
          (try simp only [Act.put, List.setIfInBounds_toArray, List.set_cons_zero, List.set_cons_succ])
          refine wpAnyH_take (i := 9) (v := ?_) rfl (by kernel_rfl) (by kernel_rfl) (by kernel_rfl) (fun _ _ _ h => h) (Or.inl ⟨by rfl, ?_⟩) (by assumption) ?_
          rotate_left
          · (intro w hSw; (try dsimp only at hSw); go_simp <;> with_reducible rfl)
          (try simp only [Act.put, List.setIfInBounds_toArray, List.set_cons_zero, List.set_cons_succ])
          refine wpAnyH_take (i := 10) (v := ?_) rfl (by kernel_rfl) (by kernel_rfl) (by kernel_rfl) (fun _ _ _ h => h) (Or.inl ⟨by rfl, ?_⟩) (by assumption) ?_
          rotate_left
          · (intro w hSw; (try dsimp only at hSw); go_simp <;> with_reducible rfl)
          (try simp only [Act.put, List.setIfInBounds_toArray, List.set_cons_zero, List.set_cons_succ])
          refine wpAnyH_take (i := 11) (v := ?_) rfl (by kernel_rfl) (by kernel_rfl) (by kernel_rfl) (fun _ _ _ h => h) (Or.inl ⟨by rfl, ?_⟩) (by assumption) ?_
          rotate_left
          · (intro w hSw; (try dsimp only at hSw); go_simp <;> with_reducible rfl)
          (try simp only [Act.put, List.setIfInBounds_toArray, List.set_cons_zero, List.set_cons_succ])
          refine wpAnyH_take (i := 12) (v := ?_) rfl (by kernel_rfl) (by kernel_rfl) (by kernel_rfl) (fun _ _ _ h => h) (Or.inl ⟨by rfl, ?_⟩) (by assumption) ?_
          rotate_left
          · (intro w hSw; (try dsimp only at hSw); go_simp <;> with_reducible rfl)
          (try simp only [Act.put, List.setIfInBounds_toArray, List.set_cons_zero, List.set_cons_succ])
          refine wpAnyH_take (i := 13) (v := ?_) rfl (by kernel_rfl) (by kernel_rfl) (by kernel_rfl) (fun _ _ _ h => h) (Or.inl ⟨by rfl, ?_⟩) (by assumption) ?_
          rotate_left
          · (intro w hSw; (try dsimp only at hSw); go_simp <;> with_reducible rfl)
          (try simp only [Act.put, List.setIfInBounds_toArray, List.set_cons_zero, List.set_cons_succ])
          refine wpAnyH_take (i := 14) (v := ?_) rfl (by kernel_rfl) (by kernel_rfl) (by kernel_rfl) (fun _ _ _ h => h) (Or.inl ⟨by rfl, ?_⟩) (by assumption) ?_
          rotate_left
          · (intro w hSw; (try dsimp only at hSw); go_simp <;> with_reducible rfl)
          (try simp only [Act.put, List.setIfInBounds_toArray, List.set_cons_zero, List.set_cons_succ])
          refine wpAnyH_take (i := 15) (v := ?_) rfl (by kernel_rfl) (by kernel_rfl) (by kernel_rfl) (fun _ _ _ h => h) (Or.inl ⟨by rfl, ?_⟩) (by assumption) ?_
          rotate_left
          · (intro w hSw; (try dsimp only at hSw); go_simp <;> with_reducible rfl)
          (try simp only [Act.put, List.setIfInBounds_toArray, List.set_cons_zero, List.set_cons_succ])
          refine wpAnyH_take (i := 16) (v := ?_) rfl (by kernel_rfl) (by kernel_rfl) (by kernel_rfl) (fun _ _ _ h => h) (Or.inl ⟨by rfl, ?_⟩) (by assumption) ?_
          rotate_left
          · (intro w hSw; (try dsimp only at hSw); go_simp <;> with_reducible rfl)
          (try simp only [Act.put, List.setIfInBounds_toArray, List.set_cons_zero, List.set_cons_succ])
          refine wpAnyH_take (i := 17) (v := ?_) rfl (by kernel_rfl) (by kernel_rfl) (by kernel_rfl) (fun _ _ _ h => h) (Or.inl ⟨by rfl, ?_⟩) (by assumption) ?_
          rotate_left
          · (intro w hSw; (try dsimp only at hSw); go_simp <;> with_reducible rfl)
          (try simp only [Act.put, List.setIfInBounds_toArray, List.set_cons_zero, List.set_cons_succ])
          refine wpAnyH_take (i := 18) (v := ?_) rfl (by kernel_rfl) (by kernel_rfl) (by kernel_rfl) (fun _ _ _ h => h) (Or.inl ⟨by rfl, ?_⟩) (by assumption) ?_
          rotate_left
          · (intro w hSw; (try dsimp only at hSw); go_simp <;> with_reducible rfl)
          (try simp only [Act.put, List.setIfInBounds_toArray, List.set_cons_zero, List.set_cons_succ])
          refine wpAnyH_ready (rs := [19]) (by kernel_rfl) (by simp) ?_
          refine AllReadyH.cons rfl (fun K hK => ?_) AllReadyH.nil
          go_simp
          (go_at_call 69; refine (HLES.out _).mono ?_; rintro e w2 ⟨rfl, hb2⟩; have hbC : Below wX.heap.size wX w2 := (Below.refl _ wX).drew.trans hb2; have m2 := HM2.out.below hbC; have f0 := m2.frozen hpN (q * 2); have f1 := m2.frozen hpN (q * 2 + 1); obtain ⟨c0, c1⟩ := m2.cells hpN hqN; clear m2)
          (try go_wp2_with fail)
          refine hK.out _ _ (HSB.out _ hbC) (fun hHeld => ?_)
          clear hK
          (try simp only [Act.put, List.setIfInBounds_toArray, List.set_cons_zero, List.set_cons_succ])
          refine wpAnyH_take (i := 20) (v := ?_) rfl (by kernel_rfl) (by kernel_rfl) (by kernel_rfl) (fun _ _ _ h => h) (Or.inl ⟨by rfl, ?_⟩) (by assumption) ?_
          rotate_left
          · (intro w hSw; (try dsimp only at hSw); go_simp <;> with_reducible rfl)
          (try simp only [Act.put, List.setIfInBounds_toArray, List.set_cons_zero, List.set_cons_succ])
          refine wpAnyH_done (by kernel_rfl) ?_ _
          simp only [QLast]
          go_wp2_with fail
          go_roundw
          case rel =>
            have m9 := (HM2.out.below hbC).set HAP.out hpN hqN u.1 u.2
            rw [show Ln.up D p q (u.1, u.2) = Ln.edK bs (j + 1) from HST.out.symm] at m9
            exact ⟨j + 1, by omega, by go_num, (((K2.out.below hbC K2.out.lt).far (by simp; omega) _).far (by simp; omega) _), m9, ((HB2.out.trans (hbC.mono (Nat.le_of_lt K2.out.lt))).setCell (by simp; omega) _).setCell (by simp; omega) _⟩
          case measure => simp [intOf]; omega
        · obtain rfl : j = bs.length := by omega
          obtain ⟨E, hE⟩ : ∃ E, Ln.edK bs bs.length = E := ⟨_, rfl⟩
          have hsm : ∀ c a n i j, c < k → a < k → n ≤ k → i < k → j < k → -100000000000 ≤ (Ln.fwB c a (Ln.fwA k c (Ln.fwC k (Ln.edK bs bs.length) c) a) n i j).1 ∧ (Ln.fwB c a (Ln.fwA k c (Ln.fwC k (Ln.edK bs bs.length) c) a) n i j).1 ≤ 100000000000 := fun c a n i j h1 h2 h3 h4 h5 => Ln.fw_small hok hl hNN h14 h1 h2 h3 h4 h5
          have hmt : Ln.mtx bs k = Ln.fwC k E k := by rw [← hE]; rfl
          simp only [hE] at hM hsm
          have HMT := Lib.hid hmt
          have HSM := Lib.hid hsm
          clear hmt hsm hE
          go_wp2_with fail
          go_loopw [7] (fun i wr => ∃ kc : Nat, kc ≤ k ∧ i = .int .i64 kc ∧ Bk wr sb 24 #[.int .i64 k, .slice A bs.length c] ∧ MM wr G k blk (Ln.fwC k E kc) ∧ Below sb w wr)
            (fun i _ => k - (intOf i).toNat)
          case atStart => exact ⟨0, Nat.zero_le _, rfl, k1, hM, hB⟩
          case round =>
            clear k1 hM hB c1
            obtain ⟨kc, hkc, rfl, k1, hM, hB⟩ := hrel
            have c0 := k1.cell 0
            simp only [List.getElem?_toArray, List.getElem?_cons_zero, List.getElem?_cons_succ] at c0
            have hs1 := k1.lt
            by_cases hcl : kc < k
            · have hci : (kc : Int) < (k : Int) := by omega
              have hc0 : (0 : Int) ≤ (kc : Int) := Int.natCast_nonneg _
              go_wp2_with fail
              go_loopw [8] (fun i wr => ∃ ka : Nat, ka ≤ k ∧ i = .int .i64 ka ∧ Bk wr sb 24 #[.int .i64 k, .slice A bs.length c] ∧ MM wr G k blk (Ln.fwA k kc (Ln.fwC k E kc) ka) ∧ Below sb w wr)
                (fun i _ => k - (intOf i).toNat)
              case atStart => exact ⟨0, Nat.zero_le _, rfl, k1, hM, hB⟩
              case round =>
                clear k1 hM hB c0
                obtain ⟨ka, hka, rfl, k1, hM, hB⟩ := hrel
                have c0 := k1.cell 0
                simp only [List.getElem?_toArray, List.getElem?_cons_zero, List.getElem?_cons_succ] at c0
                have hs1 := k1.lt
                by_cases hal : ka < k
                · have hai : (ka : Int) < (k : Int) := by omega
                  have ha0 : (0 : Int) ≤ (ka : Int) := Int.natCast_nonneg _
                  go_wp2_with fail
                  go_loopw [9] (fun i wr => ∃ kb : Nat, kb ≤ k ∧ i = .int .i64 kb ∧ Bk wr sb 24 #[.int .i64 k, .slice A bs.length c] ∧ MM wr G k blk (Ln.fwB kc ka (Ln.fwA k kc (Ln.fwC k E kc) ka) kb) ∧ Below sb w wr)
                    (fun i _ => k - (intOf i).toNat)
                  case atStart => exact ⟨0, Nat.zero_le _, rfl, k1, hM, hB⟩
                  case round =>
                    clear k1 hM hB c0
                    obtain ⟨kb, hkb, rfl, k1, hM, hB⟩ := hrel
                    have c0 := k1.cell 0
                    simp only [List.getElem?_toArray, List.getElem?_cons_zero, List.getElem?_cons_succ] at c0
                    have hs1 := k1.lt
                    by_cases hbl : kb < k
                    · have hbi : (kb : Int) < (k : Int) := by omega
                      have hb0 : (0 : Int) ≤ (kb : Int) := Int.natCast_nonneg _
                      have hst := Ln.fwB_succ kc ka (Ln.fwA k kc (Ln.fwC k E kc) ka) kb
                      have b1 := HSM.out kc ka kb ka kc hcl hal hkb hal hcl
                      have b2 := HSM.out kc ka kb kc kb hcl hal hkb hcl hbl
                      obtain ⟨D, hD⟩ : ∃ D, Ln.fwB kc ka (Ln.fwA k kc (Ln.fwC k E kc) ka) kb = D := ⟨_, rfl⟩
                      rw [hD] at hM hst b1 b2
                      rw [Ln.fwS] at hst
                      clear hD
                      have gO := hM.cellO hal
                      have gC := hM.cellO hcl
                      obtain ⟨v1, v2⟩ := hM.cells hal hcl
                      obtain ⟨v3, v4⟩ := hM.cells hcl hbl
                      obtain ⟨v5, v6⟩ := hM.cells hal hbl
                      obtain ⟨⟨xac, yac⟩, hac⟩ : ∃ z, D ka kc = z := ⟨_, rfl⟩
                      obtain ⟨⟨xcb, ycb⟩, hcb⟩ : ∃ z, D kc kb = z := ⟨_, rfl⟩
                      obtain ⟨⟨xab, yab⟩, hab⟩ : ∃ z, D ka kb = z := ⟨_, rfl⟩
                      rw [hac] at v1 v2 hst b1
                      rw [hcb] at v3 v4 hst b2
                      rw [hab] at v5 v6 hst
                      dsimp only at v1 v2 v3 v4 v5 v6 hst b1 b2
                      obtain ⟨b11, b12⟩ := b1
                      obtain ⟨b21, b22⟩ := b2
                      have lG := hM.out.lt
                      have la := (hM.row ka hal).lt
                      have lc := (hM.row kc hcl).lt
                      clear hac hcb hab
                      have HST := Lib.hid hst
                      have HM := Lib.hid hM
                      have HB := Lib.hid hB
                      clear hst hM hB
                      rcases yac with _ | _
                      · go_wp2_with fail
                        go_roundw
                        case rel =>
                          have h := HST.out
                          simp only [Bool.false_and, Bool.false_eq_true, if_false] at h
                          exact ⟨kb + 1, by omega, by go_num, k1, by rw [h]; exact HM.out, HB.out⟩
                        case measure => simp [intOf]; omega
                      · rcases ycb with _ | _
                        · go_wp2_with fail
                          go_roundw
                          case rel =>
                            have h := HST.out
                            simp only [Bool.and_false, Bool.false_eq_true, if_false] at h
                            exact ⟨kb + 1, by omega, by go_num, k1, by rw [h]; exact HM.out, HB.out⟩
                          case measure => simp [intOf]; omega
                        · obtain ⟨u, hu⟩ : ∃ u, Ln.lesserF (xab, yab) (xac + xcb, true) = u := ⟨_, rfl⟩
                          have hst := HST.out
                          simp only [Bool.and_self, if_true] at hst
                          rw [hu] at hst
                          have hles := fun w => lesser_any xab yab (xac + xcb) true w
                          rw [hu] at hles
                          have hSB : ∀ W, Below wr.heap.size wr W → ((W.cell? ⟨G, ka, none⟩ = some (.slice (some ⟨blk ka, 0, none⟩) k k) ∧ W.cell? ⟨G, kc, none⟩ = some (.slice (some ⟨blk kc, 0, none⟩) k k)) ∧ W.cell? ⟨blk kc, kb * 2, none⟩ = some (.int .i64 xcb)) ∧ (W.cell? ⟨blk ka, kc * 2, none⟩ = some (.int .i64 xac) ∧ W.cell? ⟨blk ka, kc * 2 + 1, none⟩ = some (.bool true)) ∧ (W.cell? ⟨blk ka, kb * 2, none⟩ = some (.int .i64 xab) ∧ W.cell? ⟨blk ka, kb * 2 + 1, none⟩ = some (.bool yab)) := fun W hb =>
                            ⟨⟨⟨(hb.cell (p := ⟨G, ka, none⟩) lG).trans gO, (hb.cell (p := ⟨G, kc, none⟩) lG).trans gC⟩, (hb.cell (p := ⟨blk kc, kb * 2, none⟩) lc).trans v3⟩, ⟨(hb.cell (p := ⟨blk ka, kc * 2, none⟩) la).trans v1, (hb.cell (p := ⟨blk ka, kc * 2 + 1, none⟩) la).trans v2⟩, (hb.cell (p := ⟨blk ka, kb * 2, none⟩) la).trans v5, (hb.cell (p := ⟨blk ka, kb * 2 + 1, none⟩) la).trans v6⟩
                          have hga := hgt ka hal
                          have HSB := Lib.hid hSB
                          have HLES := Lib.hid hles
                          clear hSB hles HST hu
                          have HST := Lib.hid hst
                          clear hst
                          go_upto_region 22 with fail
                          clear v1 v2 v3 v4 v5 v6 gO gC
                          refine wp_region_last2 (S := fun W => ((W.cell? ⟨G, ka, none⟩ = some (.slice (some ⟨blk ka, 0, none⟩) k k) ∧ W.cell? ⟨G, kc, none⟩ = some (.slice (some ⟨blk kc, 0, none⟩) k k)) ∧ W.cell? ⟨blk kc, kb * 2, none⟩ = some (.int .i64 xcb)) ∧ (W.cell? ⟨blk ka, kc * 2, none⟩ = some (.int .i64 xac) ∧ W.cell? ⟨blk ka, kc * 2 + 1, none⟩ = some (.bool true)) ∧ (W.cell? ⟨blk ka, kb * 2, none⟩ = some (.int .i64 xab) ∧ W.cell? ⟨blk ka, kb * 2 + 1, none⟩ = some (.bool yab))) 30 rfl rfl (by kernel_rfl) (by kernel_rfl) (HSB.out _ (Below.refl _ wr).drew) (fun hHeld => ?_)
                          simp only [List.take_succ_cons, List.take_zero]
                          refine wpAnyH_take (i := 0) (v := ?_) rfl (by kernel_rfl) (by kernel_rfl) (by kernel_rfl) (fun _ _ _ h => h) (Or.inl ⟨by rfl, ?_⟩) (by assumption) ?_
                          rotate_left
                          · (intro w hSw; (try dsimp only at hSw); go_simp <;> with_reducible rfl)
                          (try simp only [Act.put, List.setIfInBounds_toArray, List.set_cons_zero, List.set_cons_succ])
                          refine wpAnyH_take (i := 1) (v := ?_) rfl (by kernel_rfl) (by kernel_rfl) (by kernel_rfl) (fun _ _ _ h => h) (Or.inl ⟨by rfl, ?_⟩) (by assumption) ?_
                          rotate_left
                          · (intro w hSw; (try dsimp only at hSw); go_simp <;> with_reducible rfl)
                          (try simp only [Act.put, List.setIfInBounds_toArray, List.set_cons_zero, List.set_cons_succ])
                          refine wpAnyH_take (i := 2) (v := ?_) rfl (by kernel_rfl) (by kernel_rfl) (by kernel_rfl) (fun _ _ _ h => h) (Or.inl ⟨by rfl, ?_⟩) (by assumption) ?_
                          rotate_left
                          · (intro w hSw; (try dsimp only at hSw); go_simp <;> with_reducible rfl)
                          (try simp only [Act.put, List.setIfInBounds_toArray, List.set_cons_zero, List.set_cons_succ])
                          refine wpAnyH_take (i := 3) (v := ?_) rfl (by kernel_rfl) (by kernel_rfl) (by kernel_rfl) (fun _ _ _ h => h) (Or.inl ⟨by rfl, ?_⟩) (by assumption) ?_
                          rotate_left
                          · (intro w hSw; (try dsimp only at hSw); go_simp <;> with_reducible rfl)
                          (try simp only [Act.put, List.setIfInBounds_toArray, List.set_cons_zero, List.set_cons_succ])
                          refine wpAnyH_take (i := 4) (v := ?_) rfl (by kernel_rfl) (by kernel_rfl) (by kernel_rfl) (fun _ _ _ h => h) (Or.inl ⟨by rfl, ?_⟩) (by assumption) ?_
                          rotate_left
                          · (intro w hSw; (try dsimp only at hSw); go_simp <;> with_reducible rfl)
                          (try simp only [Act.put, List.setIfInBounds_toArray, List.set_cons_zero, List.set_cons_succ])
                          refine wpAnyH_take (i := 5) (v := ?_) rfl (by kernel_rfl) (by kernel_rfl) (by kernel_rfl) (fun _ _ _ h => h) (Or.inl ⟨by rfl, ?_⟩) (by assumption) ?_
                          rotate_left
                          · (intro w hSw; (try dsimp only at hSw); go_simp <;> with_reducible rfl)
                          (try simp only [Act.put, List.setIfInBounds_toArray, List.set_cons_zero, List.set_cons_succ])
                          refine wpAnyH_take (i := 6) (v := ?_) rfl (by kernel_rfl) (by kernel_rfl) (by kernel_rfl) (fun _ _ _ h => h) (Or.inl ⟨by rfl, ?_⟩) (by assumption) ?_
                          rotate_left
                          · (intro w hSw; (try dsimp only at hSw); go_simp <;> with_reducible rfl)
                          (try simp only [Act.put, List.setIfInBounds_toArray, List.set_cons_zero, List.set_cons_succ])
                          refine wpAnyH_take (i := 7) (v := ?_) rfl (by kernel_rfl) (by kernel_rfl) (by kernel_rfl) (fun _ _ _ h => h) (Or.inl ⟨by rfl, ?_⟩) (by assumption) ?_
                          rotate_left
                          · (intro w hSw; (try dsimp only at hSw); go_simp <;> with_reducible rfl)
                          (try simp only [Act.put, List.setIfInBounds_toArray, List.set_cons_zero, List.set_cons_succ])
                          refine wpAnyH_take (i := 8) (v := ?_) rfl (by kernel_rfl) (by kernel_rfl) (by kernel_rfl) (fun _ _ _ h => h) (Or.inl ⟨by rfl, ?_⟩) (by assumption) ?_
                          rotate_left
                          · (intro w hSw; (try dsimp only at hSw); go_simp <;> with_reducible rfl)
                          (try simp only [Act.put, List.setIfInBounds_toArray, List.set_cons_zero, List.set_cons_succ])
                          refine wpAnyH_take (i := 9) (v := ?_) rfl (by kernel_rfl) (by kernel_rfl) (by kernel_rfl) (fun _ _ _ h => h) (Or.inl ⟨by rfl, ?_⟩) (by assumption) ?_
                          rotate_left
                          · (intro w hSw; (try dsimp only at hSw); go_simp <;> with_reducible rfl)
                          (try simp only [Act.put, List.setIfInBounds_toArray, List.set_cons_zero, List.set_cons_succ])
                          refine wpAnyH_take (i := 10) (v := ?_) rfl (by kernel_rfl) (by kernel_rfl) (by kernel_rfl) (fun _ _ _ h => h) (Or.inl ⟨by rfl, ?_⟩) (by assumption) ?_
                          rotate_left
                          · (intro w hSw; (try dsimp only at hSw); go_simp <;> with_reducible rfl)
                          (try simp only [Act.put, List.setIfInBounds_toArray, List.set_cons_zero, List.set_cons_succ])
                          refine wpAnyH_take (i := 11) (v := ?_) rfl (by kernel_rfl) (by kernel_rfl) (by kernel_rfl) (fun _ _ _ h => h) (Or.inl ⟨by rfl, ?_⟩) (by assumption) ?_
                          rotate_left
                          · (intro w hSw; (try dsimp only at hSw); go_simp <;> with_reducible rfl)
                          (try simp only [Act.put, List.setIfInBounds_toArray, List.set_cons_zero, List.set_cons_succ])
                          refine wpAnyH_take (i := 12) (v := ?_) rfl (by kernel_rfl) (by kernel_rfl) (by kernel_rfl) (fun _ _ _ h => h) (Or.inl ⟨by rfl, ?_⟩) (by assumption) ?_
                          rotate_left
                          · (intro w hSw; (try dsimp only at hSw); go_simp <;> with_reducible rfl)
                          (try simp only [Act.put, List.setIfInBounds_toArray, List.set_cons_zero, List.set_cons_succ])
                          refine wpAnyH_take (i := 13) (v := ?_) rfl (by kernel_rfl) (by kernel_rfl) (by kernel_rfl) (fun _ _ _ h => h) (Or.inl ⟨by rfl, ?_⟩) (by assumption) ?_
                          rotate_left
                          · (intro w hSw; (try dsimp only at hSw); go_simp <;> with_reducible rfl)
                          (try simp only [Act.put, List.setIfInBounds_toArray, List.set_cons_zero, List.set_cons_succ])
                          refine wpAnyH_take (i := 14) (v := ?_) rfl (by kernel_rfl) (by kernel_rfl) (by kernel_rfl) (fun _ _ _ h => h) (Or.inl ⟨by rfl, ?_⟩) (by assumption) ?_
                          rotate_left
                          · (intro w hSw; (try dsimp only at hSw); go_simp <;> with_reducible rfl)
                          (try simp only [Act.put, List.setIfInBounds_toArray, List.set_cons_zero, List.set_cons_succ])
                          refine wpAnyH_take (i := 15) (v := ?_) rfl (by kernel_rfl) (by kernel_rfl) (by kernel_rfl) (fun _ _ _ h => h) (Or.inl ⟨by rfl, ?_⟩) (by assumption) ?_
                          rotate_left
                          · (intro w hSw; (try dsimp only at hSw); go_simp <;> with_reducible rfl)
                          (try simp only [Act.put, List.setIfInBounds_toArray, List.set_cons_zero, List.set_cons_succ])
                          refine wpAnyH_take (i := 16) (v := ?_) rfl (by kernel_rfl) (by kernel_rfl) (by kernel_rfl) (fun _ _ _ h => h) (Or.inl ⟨by rfl, ?_⟩) (by assumption) ?_
                          rotate_left
                          · (intro w hSw; (try dsimp only at hSw); go_simp <;> with_reducible rfl)
                          (try simp only [Act.put, List.setIfInBounds_toArray, List.set_cons_zero, List.set_cons_succ])
                          refine wpAnyH_take (i := 17) (v := ?_) rfl (by kernel_rfl) (by kernel_rfl) (by kernel_rfl) (fun _ _ _ h => h) (Or.inl ⟨by rfl, ?_⟩) (by assumption) ?_
                          rotate_left
                          · (intro w hSw; (try dsimp only at hSw); go_simp <;> with_reducible rfl)
                          (try simp only [Act.put, List.setIfInBounds_toArray, List.set_cons_zero, List.set_cons_succ])
                          refine wpAnyH_take (i := 18) (v := ?_) rfl (by kernel_rfl) (by kernel_rfl) (by kernel_rfl) (fun _ _ _ h => h) (Or.inl ⟨by rfl, ?_⟩) (by assumption) ?_
                          rotate_left
                          · (intro w hSw; (try dsimp only at hSw); go_simp <;> with_reducible rfl)
                          (try simp only [Act.put, List.setIfInBounds_toArray, List.set_cons_zero, List.set_cons_succ])
                          refine wpAnyH_take (i := 19) (v := ?_) rfl (by kernel_rfl) (by kernel_rfl) (by kernel_rfl) (fun _ _ _ h => h) (Or.inl ⟨by rfl, ?_⟩) (by assumption) ?_
                          rotate_left
                          · (intro w hSw; (try dsimp only at hSw); go_simp <;> with_reducible rfl)
                          (try simp only [Act.put, List.setIfInBounds_toArray, List.set_cons_zero, List.set_cons_succ])
                          refine wpAnyH_take (i := 20) (v := ?_) rfl (by kernel_rfl) (by kernel_rfl) (by kernel_rfl) (fun _ _ _ h => h) (Or.inl ⟨by rfl, ?_⟩) (by assumption) ?_
                          rotate_left
                          · (intro w hSw; (try dsimp only at hSw); go_simp <;> with_reducible rfl)
                          (try simp only [Act.put, List.setIfInBounds_toArray, List.set_cons_zero, List.set_cons_succ])
                          refine wpAnyH_take (i := 21) (v := ?_) rfl (by kernel_rfl) (by kernel_rfl) (by kernel_rfl) (fun _ _ _ h => h) (Or.inl ⟨by rfl, ?_⟩) (by assumption) ?_
                          rotate_left
                          · (intro w hSw; (try dsimp only at hSw); go_simp <;> with_reducible rfl)
                          (try simp only [Act.put, List.setIfInBounds_toArray, List.set_cons_zero, List.set_cons_succ])
                          refine wpAnyH_take (i := 22) (v := ?_) rfl (by kernel_rfl) (by kernel_rfl) (by kernel_rfl) (fun _ _ _ h => h) (Or.inl ⟨by rfl, ?_⟩) (by assumption) ?_
                          rotate_left
                          · (intro w hSw; (try dsimp only at hSw); go_simp <;> with_reducible rfl)
                          (try simp only [Act.put, List.setIfInBounds_toArray, List.set_cons_zero, List.set_cons_succ])
                          refine wpAnyH_take (i := 23) (v := ?_) rfl (by kernel_rfl) (by kernel_rfl) (by kernel_rfl) (fun _ _ _ h => h) (Or.inl ⟨by rfl, ?_⟩) (by assumption) ?_
                          rotate_left
                          · (intro w hSw; (try dsimp only at hSw); go_simp <;> with_reducible rfl)
                          (try simp only [Act.put, List.setIfInBounds_toArray, List.set_cons_zero, List.set_cons_succ])
                          refine wpAnyH_take (i := 24) (v := ?_) rfl (by kernel_rfl) (by kernel_rfl) (by kernel_rfl) (fun _ _ _ h => h) (Or.inl ⟨by rfl, ?_⟩) (by assumption) ?_
                          rotate_left
                          · (intro w hSw; (try dsimp only at hSw); go_simp <;> with_reducible rfl)
                          (try simp only [Act.put, List.setIfInBounds_toArray, List.set_cons_zero, List.set_cons_succ])
                          refine wpAnyH_take (i := 25) (v := ?_) rfl (by kernel_rfl) (by kernel_rfl) (by kernel_rfl) (fun _ _ _ h => h) (Or.inl ⟨by rfl, ?_⟩) (by assumption) ?_
                          rotate_left
                          · (intro w hSw; (try dsimp only at hSw); go_simp <;> with_reducible rfl)
                          (try simp only [Act.put, List.setIfInBounds_toArray, List.set_cons_zero, List.set_cons_succ])
                          refine wpAnyH_take (i := 26) (v := ?_) rfl (by kernel_rfl) (by kernel_rfl) (by kernel_rfl) (fun _ _ _ h => h) (Or.inl ⟨by rfl, ?_⟩) (by assumption) ?_
                          rotate_left
                          · (intro w hSw; (try dsimp only at hSw); go_simp <;> with_reducible rfl)
                          (try simp only [Act.put, List.setIfInBounds_toArray, List.set_cons_zero, List.set_cons_succ])
                          refine wpAnyH_ready (rs := [27]) (by kernel_rfl) (by simp) ?_
                          refine AllReadyH.cons rfl (fun K hK => ?_) AllReadyH.nil
                          go_simp
                          (go_at_call 70; refine (plus_any xac true xcb (by omega) (by omega) (by omega) (by omega) _).mono ?_; rintro e w2 ⟨rfl, hb2⟩; have hbC : Below wr.heap.size wr w2 := (Below.refl _ wr).drew.trans hb2)
                          (try go_wp2_with fail)
                          refine hK.out _ _ (HSB.out _ hbC) (fun hHeld => ?_)
                          clear hK
                          (try simp only [Act.put, List.setIfInBounds_toArray, List.set_cons_zero, List.set_cons_succ])
                          refine wpAnyH_ready (rs := [28]) (by kernel_rfl) (by simp) ?_
                          refine AllReadyH.cons rfl (fun K hK => ?_) AllReadyH.nil
                          go_simp
                          (go_at_call 69; refine (HLES.out _).mono ?_; rintro e w3 ⟨rfl, hb3⟩; have hbD : Below wr.heap.size wr w3 := hbC.trans (hb3.mono hbC.size); have m2 := HM.out.below hbD; have f0 := m2.frozen hal (kb * 2); have f1 := m2.frozen hal (kb * 2 + 1); obtain ⟨r5, r6⟩ := m2.cells hal hbl; clear m2)
                          (try go_wp2_with fail)
                          refine hK.out _ _ (HSB.out _ hbD) (fun hHeld => ?_)
                          clear hK
                          (try simp only [Act.put, List.setIfInBounds_toArray, List.set_cons_zero, List.set_cons_succ])
                          refine wpAnyH_take (i := 29) (v := ?_) rfl (by kernel_rfl) (by kernel_rfl) (by kernel_rfl) (fun _ _ _ h => h) (Or.inl ⟨by rfl, ?_⟩) (by assumption) ?_
                          rotate_left
                          · (intro w hSw; (try dsimp only at hSw); go_simp <;> with_reducible rfl)
                          (try simp only [Act.put, List.setIfInBounds_toArray, List.set_cons_zero, List.set_cons_succ])
                          refine wpAnyH_done (by kernel_rfl) ?_ _
                          simp only [QLast]
                          all_goals
                            go_wp2_with fail
                            go_roundw
                            case rel =>
                              have m9 := (HM.out.below hbD).set HAP.out hal hbl u.1 u.2
                              rw [show Ln.up D ka kb (u.1, u.2) = Ln.fwB kc ka (Ln.fwA k kc (Ln.fwC k E kc) ka) (kb + 1) from HST.out.symm] at m9
                              exact ⟨kb + 1, by omega, by go_num, (((k1.below hbD k1.lt).far (by simp; omega) _).far (by simp; omega) _), m9, ((HB.out.trans (hbD.mono (Nat.le_of_lt hs1))).setCell (by simp; omega) _).setCell (by simp; omega) _⟩
                            case measure => simp [intOf]; omega
                    · obtain rfl : kb = k := by omega
                      go_wp2_with fail
                      go_roundw
                      case rel => exact ⟨ka + 1, by omega, by go_num, k1, by rw [Ln.fwA_succ]; exact hM, hB⟩
                      case measure => simp [intOf]; omega
                · obtain rfl : ka = k := by omega
                  go_wp2_with fail
                  go_roundw
                  case rel => exact ⟨kc + 1, by omega, by go_num, k1, by rw [Ln.fwC_succ]; exact hM, hB⟩
                  case measure => simp [intOf]; omega
            · obtain rfl : kc = k := by omega
              go_wp2_with fail
              go_ret
              exact ⟨G, blk, rfl, by rw [HMT.out]; exact hM, HAP.out, by omega, by rw [hsb]; exact hB⟩

end Go.Proofs.Yteiaofgkmgllcaa

namespace Go.Proofs.Yteiaofgkmgllcaa
open Go.RowKit

def lowR (x : Int × Bool) : Int × Bool := if x.2 then (-x.1, true) else (0, false)
def highR (x : Int × Bool) : Int × Bool := if x.2 then (x.1, true) else (0, false)
theorem lowR_far (d : Int) : lowR (Ln.ffar d) = Ln.lowF 0 d := by
  unfold lowR Ln.ffar Ln.lowF
  by_cases h : d = Ln.NONE
  · simp [h]
  · simp [h]
theorem highR_far (d : Int) : highR (Ln.ffar d) = Ln.highF 0 d := by
  unfold highR Ln.ffar Ln.highF
  by_cases h : d = Ln.NONE
  · simp [h]
  · simp [h]

/-- The matrix of a sound system. -/
theorem matrix_sound {N : Int} {bs : List Ln.Bd} {ps : List Int} (hs : Ln.soundF N bs ps = 0) (hc : Ln.Lv bs) (h14 : N ≤ 14) (A : Option Addr) (c : Nat) (w : World) (hR : Rd w w.heap.size 4 A bs.length (bcells bs)) :
    Calls Try.prog 81 #[.agg #[.int .i64 N, .slice A bs.length c]] w fun e w' => ∃ G blk D, e = .returned (.slice (some ⟨G, 0, none⟩) N.toNat N.toNat) ∧ MM w' G N.toNat blk D ∧ Ap G N.toNat blk ∧ w.heap.size ≤ G ∧ Below w.heap.size w w' ∧
      (∀ a b, a < N.toNat → b < N.toNat → D a b = Ln.ffar (Ln.dF N bs a b)) ∧ ∀ a b, a < N.toNat → b < N.toNat → -100000000000 ≤ (D a b).1 ∧ (D a b).1 ≤ 100000000000 := by
  obtain ⟨h1, h2, h3⟩ := Ln.sound_zero hs
  obtain ⟨hok, hN⟩ := Ln.ok_of_check h3
  have hNN := (Ln.cons_iff hok).1 h2
  have h := matrix_any hok hc.live hNN (by omega) A c w hR
  rw [hN] at h
  refine h.mono ?_
  rintro e w' ⟨G, blk, rfl, hM, hA, hG, hb⟩
  refine ⟨G, blk, _, rfl, hM, hA, hG, hb, fun a b ha hb => ?_, fun a b ha hb => ?_⟩
  · rw [Ln.mtx_at hok hc.live hNN ha hb, Ln.dF]
    simp
  · have h1 := (Ln.fwC_ok hok hc.live hNN N.toNat (Nat.le_refl _)).1.small hok hNN (Ln.mtop_pos _) ha hb
    have hm : Ln.mtop N.toNat ≤ Ln.mtop 14 := Ln.mtop_mono (by omega)
    rw [Ln.mtop_14] at hm
    have : (N.toNat : Int) ≤ 14 := by omega
    show -100000000000 ≤ (Ln.fwC N.toNat (Ln.edK bs bs.length) N.toNat a b).1 ∧ (Ln.fwC N.toNat (Ln.edK bs bs.length) N.toNat a b).1 ≤ 100000000000
    omega

end Go.Proofs.Yteiaofgkmgllcaa

