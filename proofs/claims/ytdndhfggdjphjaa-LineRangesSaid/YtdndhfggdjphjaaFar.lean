/-
  The reference's lesser, plus; what its matrix is in memory.
-/
import Derived.Test.YtdndhfggdjphjaaConR
import Derived.Test.YtdndhfggdjphjaaMtx
set_option linter.unusedVariables false
set_option linter.unusedSimpArgs false
namespace Go.Proofs.Ytdndhfggdjphjaa
open Go.RowKit

def farV (x : Int × Bool) : Value := .agg #[.int .i64 x.1, .bool x.2]

set_option maxRecDepth 100000 in
set_option maxHeartbeats 400000 in
theorem lesser_any (a : Int) (p : Bool) (b : Int) (q : Bool) (w : World) :
    Calls Try.prog 84 #[.agg #[.int .i64 a, .bool p], .agg #[.int .i64 b, .bool q]] w fun e w' => e = .returned (.agg #[.int .i64 (Ln.lesserF (a, p) (b, q)).1, .bool (Ln.lesserF (a, p) (b, q)).2]) ∧ Below w.heap.size w w' := by
  have hB : ∀ o1 o2 o3 : Obj, Below w.heap.size w (((w.alloc o1).alloc o2).alloc o3) := fun o1 o2 o3 => (((Below.refl _ _).alloc (Nat.le_refl _) _).alloc (by simp) _).alloc (by simp; omega) _
  rcases p with _ | _
  · have hf : Ln.lesserF (a, false) (b, q) = (b, q) := by simp [Ln.lesserF]
    rw [hf]
    clear hf
    go_enter Try.func84, Try.ntmps84
    go_wp2_with fail
    exact bodyPost_ret (v := .agg #[.int .i64 b, .bool q]) (by simp [results, Try.results84, go_sem]) rfl ⟨rfl, hB _ _ _⟩
  · rcases q with _ | _
    · have hf : Ln.lesserF (a, true) (b, false) = (a, true) := by simp [Ln.lesserF]
      rw [hf]
      clear hf
      go_enter Try.func84, Try.ntmps84
      go_wp2_with fail
      exact bodyPost_ret (v := .agg #[.int .i64 a, .bool true]) (by simp [results, Try.results84, go_sem]) rfl ⟨rfl, hB _ _ _⟩
    · rcases hd : decide (b < a) with _ | _
      · have hf : Ln.lesserF (a, true) (b, true) = (a, true) := by rw [decide_eq_false_iff_not] at hd; simp [Ln.lesserF, hd]
        rw [hf]
        clear hf
        go_enter Try.func84, Try.ntmps84
        go_wp2_with fail
        exact bodyPost_ret (v := .agg #[.int .i64 a, .bool true]) (by simp [results, Try.results84, go_sem]) rfl ⟨rfl, hB _ _ _⟩
      · have hf : Ln.lesserF (a, true) (b, true) = (b, true) := by rw [decide_eq_true_iff] at hd; simp [Ln.lesserF, hd]
        rw [hf]
        clear hf
        go_enter Try.func84, Try.ntmps84
        go_wp2_with fail
        exact bodyPost_ret (v := .agg #[.int .i64 b, .bool true]) (by simp [results, Try.results84, go_sem]) rfl ⟨rfl, hB _ _ _⟩

set_option maxRecDepth 100000 in
set_option maxHeartbeats 400000 in
theorem plus_any (a : Int) (p : Bool) (n : Int) (h1 : -100000000000000000 ≤ a) (h2 : a ≤ 100000000000000000) (h3 : -100000000000000000 ≤ n) (h4 : n ≤ 100000000000000000) (w : World) :
    Calls Try.prog 85 #[.agg #[.int .i64 a, .bool p], .int .i64 n] w fun e w' => e = .returned (.agg #[.int .i64 (a + n), .bool p]) ∧ Below w.heap.size w w' := by
  have hB : ∀ o1 o2 : Obj, Below w.heap.size w ((w.alloc o1).alloc o2) := fun o1 o2 => ((Below.refl _ _).alloc (Nat.le_refl _) _).alloc (by simp) _
  go_enter Try.func85, Try.ntmps85
  go_wp2_with fail
  exact bodyPost_ret (v := .agg #[.int .i64 (a + n), .bool p]) (by simp [results, Try.results85, go_sem]) rfl ⟨rfl, hB _ _⟩

/-! ### Rows and the matrix -/
def fl (N : Nat) (r : Nat → Int × Bool) : List Value := (List.range N).flatMap fun b => [.int .i64 (r b).1, .bool (r b).2]
def fc (N : Nat) (r : Nat → Int × Bool) : Array Value := (fl N r).toArray
theorem fl_succ (N : Nat) (r : Nat → Int × Bool) : fl (N + 1) r = fl N r ++ [.int .i64 (r N).1, .bool (r N).2] := by simp [fl, List.range_succ]
theorem fl_length (N : Nat) (r : Nat → Int × Bool) : (fl N r).length = N * 2 := by
  induction N with
  | zero => rfl
  | succ N ih => rw [fl_succ, List.length_append, ih]; simp; omega
theorem fl_at {N : Nat} (r : Nat → Int × Bool) {b : Nat} (hb : b < N) : (fl N r)[b * 2]? = some (.int .i64 (r b).1) ∧ (fl N r)[b * 2 + 1]? = some (.bool (r b).2) := by
  induction N with
  | zero => omega
  | succ N ih =>
    rw [fl_succ]
    rcases Nat.lt_or_ge b N with h | h
    · rw [List.getElem?_append_left (by rw [fl_length]; omega), List.getElem?_append_left (by rw [fl_length]; omega)]
      exact ih h
    · obtain rfl : b = N := by omega
      rw [List.getElem?_append_right (by rw [fl_length]; omega), List.getElem?_append_right (by rw [fl_length]; omega), fl_length]
      simp
theorem fc_size (N : Nat) (r : Nat → Int × Bool) : (fc N r).size = N * 2 := by simp [fc, fl_length]
theorem fc_at {N : Nat} (r : Nat → Int × Bool) {b : Nat} (hb : b < N) : (fc N r)[b * 2]? = some (.int .i64 (r b).1) ∧ (fc N r)[b * 2 + 1]? = some (.bool (r b).2) := by
  simpa [fc] using fl_at r hb
theorem fc_set {N : Nat} (r : Nat → Int × Bool) {b : Nat} (hb : b < N) (x : Int) (q : Bool) :
    ((fc N r).setIfInBounds (b * 2) (.int .i64 x)).setIfInBounds (b * 2 + 1) (.bool q) = fc N (fun j => if j = b then (x, q) else r j) := by
  apply Array.ext_getElem?
  intro i
  rw [Array.getElem?_setIfInBounds, Array.getElem?_setIfInBounds, Array.size_setIfInBounds, fc_size]
  rcases Nat.lt_or_ge i (N * 2) with hi | hi
  · have hc : i / 2 < N := by omega
    obtain ⟨a1, a2⟩ := fc_at r hc
    obtain ⟨b1, b2⟩ := fc_at (fun j => if j = b then (x, q) else r j) hc
    rcases Nat.mod_two_eq_zero_or_one i with e | e
    · have hi2 : i / 2 * 2 = i := by omega
      rw [hi2] at a1 b1
      rw [if_neg (by omega), b1, a1]
      by_cases h : i / 2 = b
      · rw [if_pos (by omega), if_pos (by omega)]
        simp [h]
      · rw [if_neg (by omega)]
        simp [h]
    · have hi2 : i / 2 * 2 + 1 = i := by omega
      rw [hi2] at a2 b2
      rw [b2, a2]
      by_cases h : i / 2 = b
      · rw [if_pos (by omega), if_pos (by omega)]
        simp [h]
      · rw [if_neg (by omega), if_neg (by omega)]
        simp [h]
  · rw [if_neg (by omega), if_neg (by omega), Array.getElem?_eq_none (by rw [fc_size]; omega), Array.getElem?_eq_none (by rw [fc_size]; omega)]
theorem fc_zero (N : Nat) : madeCells #[.int .i64 0, .bool false] (N * 2) = fc N (fun _ => Ln.fr0) := by
  apply Array.ext_getElem?
  intro i
  unfold madeCells
  rcases Nat.lt_or_ge i (N * 2) with hi | hi
  · obtain ⟨b1, b2⟩ := fc_at (N := N) (fun _ => Ln.fr0) (b := i / 2) (by omega)
    rw [Array.getElem?_map, Array.getElem?_range, if_pos hi, Option.map_some, show (#[Value.int .i64 0, Value.bool false] : Array Value).size = 2 from rfl]
    rcases Nat.mod_two_eq_zero_or_one i with e | e
    · rw [show i / 2 * 2 = i by omega] at b1
      rw [b1, e]
      rfl
    · rw [show i / 2 * 2 + 1 = i by omega] at b2
      rw [b2, e]
      rfl
  · rw [Array.getElem?_eq_none (by simp; omega), Array.getElem?_eq_none (by rw [fc_size]; omega)]

def oc (N : Nat) (f : Nat → Value) : Array Value := ((List.range N).map f).toArray
theorem oc_at {N : Nat} (f : Nat → Value) {a : Nat} (ha : a < N) : (oc N f)[a]? = some (f a) := by simp [oc, ha]
theorem oc_set {N : Nat} (f : Nat → Value) {a : Nat} (v : Value) : (oc N f).setIfInBounds a v = oc N (fun i => if i = a then v else f i) := by
  apply Array.ext_getElem?
  intro i
  rw [Array.getElem?_setIfInBounds]
  by_cases h : a = i
  · subst h
    by_cases h2 : a < N <;> simp [oc, h2]
  · by_cases h2 : i < N <;> simp [oc, h2, h, show ¬ i = a from fun e => h e.symm]
theorem oc_made (N : Nat) : madeCells #[.slice none 0 0] (N * 1) = oc N (fun _ => .slice none 0 0) := by
  apply Array.ext_getElem?
  intro i
  unfold madeCells
  rw [Nat.mul_one]
  by_cases h : i < N
  · rw [Array.getElem?_map, Array.getElem?_range, if_pos h, Option.map_some, oc_at _ h, show (#[Value.slice none 0 0] : Array Value).size = 1 from rfl, Nat.mod_one]
    rfl
  · rw [Array.getElem?_eq_none (by simp; omega), Array.getElem?_eq_none (by simp [oc]; omega)]

/-- The matrix D: the outer list at G, row a at blk a. -/
structure MM (w : World) (G N : Nat) (blk : Nat → Nat) (D : Nat → Nat → Int × Bool) : Prop where
  out : Bk w G 124 (oc N (fun a => .slice (some ⟨blk a, 0, none⟩) N N))
  row : ∀ a, a < N → Bk w (blk a) 123 (fc N (D a))
/-- Rows are apart, and behind G. -/
structure Ap (G N : Nat) (blk : Nat → Nat) : Prop where
  inj : ∀ a b, a < N → b < N → blk a = blk b → a = b
  gt : ∀ a, a < N → G < blk a

section
variable {w w' : World} {G N : Nat} {blk : Nat → Nat} {D : Nat → Nat → Int × Bool}
theorem MM.cellO (h : MM w G N blk D) {a : Nat} (ha : a < N) : w.cell? ⟨G, a, none⟩ = some (.slice (some ⟨blk a, 0, none⟩) N N) := (h.out.cell a).trans (oc_at _ ha)
theorem MM.cells (h : MM w G N blk D) {a b : Nat} (ha : a < N) (hb : b < N) : w.cell? ⟨blk a, b * 2, none⟩ = some (.int .i64 (D a b).1) ∧ w.cell? ⟨blk a, b * 2 + 1, none⟩ = some (.bool (D a b).2) :=
  ⟨((h.row a ha).cell _).trans (fc_at _ hb).1, ((h.row a ha).cell _).trans (fc_at _ hb).2⟩
theorem MM.frozen (h : MM w G N blk D) {a : Nat} (ha : a < N) (i : Nat) : w.frozen? ⟨blk a, i, none⟩ = false := (h.row a ha).frozen i
theorem MM.below (h : MM w G N blk D) (hb : Below w.heap.size w w') : MM w' G N blk D :=
  ⟨h.out.below hb h.out.lt, fun a ha => (h.row a ha).below hb (h.row a ha).lt⟩
theorem MM.alloc (h : MM w G N blk D) (o : Obj) : MM (w.alloc o) G N blk D := ⟨h.out.alloc o, fun a ha => (h.row a ha).alloc o⟩
theorem MM.drewN (h : MM w G N blk D) (n : Nat) : MM (w.drewN n) G N blk D := ⟨h.out, fun a ha => h.row a ha⟩
theorem MM.far (h : MM w G N blk D) {p : Addr} (hG : G ≠ p.block) (hr : ∀ a, a < N → blk a ≠ p.block) (u : Value) : MM (w.setCell p u) G N blk D := ⟨h.out.far hG u, fun a ha => (h.row a ha).far (hr a ha) u⟩
theorem MM.set (h : MM w G N blk D) (k : Ap G N blk) {a b : Nat} (ha : a < N) (hb : b < N) (x : Int) (q : Bool) :
    MM ((w.setCell ⟨blk a, b * 2, none⟩ (.int .i64 x)).setCell ⟨blk a, b * 2 + 1, none⟩ (.bool q)) G N blk (Ln.up D a b (x, q)) := by
  have hG := k.gt a ha
  refine ⟨(h.out.far (by show G ≠ blk a; omega) _).far (by show G ≠ blk a; omega) _, fun i hi => ?_⟩
  by_cases e : i = a
  · subst e
    have := ((h.row i hi).set (b * 2) (.int .i64 x)).set (b * 2 + 1) (.bool q)
    rw [fc_set _ hb] at this
    have hr : (Ln.up D i b (x, q)) i = fun j => if j = b then (x, q) else D i j := by funext j; simp [Ln.up]
    rw [hr]
    exact this
  · have hne : blk i ≠ blk a := fun e2 => e (k.inj _ _ hi ha e2)
    have hr : (Ln.up D a b (x, q)) i = D i := by funext j; simp [Ln.up, e]
    rw [hr]
    exact ((h.row i hi).far hne _).far hne _
end

theorem infoR : (Try.prog.info? 124).map (fun i => (i.zero, i.size, i.bytes)) = some (some (.slice none 0 0), 1, 24) := by kernel_rfl
theorem infoF : (Try.prog.info? 123).map (fun i => (i.zero, i.size, i.bytes)) = some (some (.agg #[.int .i64 0, .bool false]), 2, 16) := by kernel_rfl

end Go.Proofs.Ytdndhfggdjphjaa
