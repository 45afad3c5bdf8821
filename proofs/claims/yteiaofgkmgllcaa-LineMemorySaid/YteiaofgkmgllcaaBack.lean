/-
  slices.Backward at a system's bounds; slices.Clone at []int.
-/
import Derived.Test.YteiaofgkmgllcaaNet
import Derived.Test.YteiaofgkmgllcaaConcat
set_option linter.unusedVariables false
set_option linter.unusedSimpArgs false
namespace Go.Proofs.Yteiaofgkmgllcaa
open Go.RowKit Go.Shelf

attribute [local go_sem] Oper.semAt_some

set_option maxHeartbeats 1000000 in
theorem backward_in (n : Nat) (A : Option Addr) (m c : Nat) (w : World) :
    CallsIn Fence.wide n Try.prog 58 #[.slice A m c] w fun e w' => e = .returned (.func (.func 84) #[] #[.pointer (some ⟨w.heap.size, 0, none⟩)]) ∧
      w' = w.alloc (.cells #[.slice A m c] 22) := by
  refine callsIn_of_wp Try.func58 rfl trivial ?_ rfl
  simp only [Try.ntmps58, List.size_toArray, List.length_cons, List.length_nil, Nat.reduceAdd, Nat.reduceSub, Array.replicate_succ, Array.replicate_zero, List.push_toArray, List.append_toArray, List.nil_append, List.cons_append]
  gi_wp2
  go_ret
  exact ⟨rfl, rfl⟩

/-- An index of a bound. -/
abbrev Iy (bs : List Ln.Bd) : Type := { i : Nat // i < bs.length }
def iyv {bs : List Ln.Bd} (i : Iy bs) : Array Value := #[.int .i64 (i.1 : Int), .agg #[.int .i64 (Ln.bd bs i.1).f, .int .i64 (Ln.bd bs i.1).t, .int .i64 (Ln.bd bs i.1).m, .int .i64 (Ln.bd bs i.1).r]]
/-- The indices from the last one on, k of them done. -/
def downTo (bs : List Ln.Bd) : (k : Nat) → k ≤ bs.length → List (Iy bs)
  | 0, _ => []
  | k + 1, h => downTo bs k (by omega) ++ [⟨bs.length - 1 - k, by omega⟩]
theorem downTo_length (bs : List Ln.Bd) : ∀ k h, (downTo bs k h).length = k
  | 0, _ => rfl
  | k + 1, h => by rw [downTo, List.length_append, downTo_length bs k]; rfl
theorem downTo_val (bs : List Ln.Bd) : ∀ k h, (downTo bs k h).map Subtype.val = (List.range k).map fun j => bs.length - 1 - j
  | 0, _ => rfl
  | k + 1, h => by rw [downTo, List.map_append, downTo_val bs k, List.range_succ, List.map_append]; rfl

set_option maxRecDepth 100000 in
set_option maxHeartbeats 2000000 in
theorem backward1_in (n : Nat) (hn : 1 ≤ n) (l Bb M : Nat) (X : Nat → Prop) (bs : List Ln.Bd) (A : Option Addr) (c : Nat) (B : Nat)
    (hMB : B ≤ M) (hX : ∀ k, k < B → ¬ X k) (hBb : Bb < M) (hXb : ¬ X Bb) (hlen : bs.length ≤ 2002) (J Jx : List (Iy bs) → World → Prop) (W : World)
    (hY : ∀ pre x W, J pre W → pre.length < bs.length → YieldAt Fence.wide (n - 1) Try.prog l (iyv x) W fun e W' =>
      (e = .returned (.bool true) ∧ J (pre ++ [x]) W' ∧ KeepX M X W W') ∨ (e = .returned (.bool false) ∧ Jx (pre ++ [x]) W'))
    (cb : Bk W Bb 22 #[.slice A bs.length c]) (hR : Rd W B 4 A bs.length (bcells bs)) (h0 : J [] W) :
    CallsIn Fence.wide n Try.prog 84 #[.func (.yield l) #[] #[], .pointer (some ⟨Bb, 0, none⟩)] W fun e W' => (∃ v, e = .returned v) ∧
      ((∃ ys, ys = downTo bs bs.length (Nat.le_refl _) ∧ J ys W') ∨ (∃ pre, True ∧ Jx pre W')) := by
  have d1 := cb.cell 0
  simp only [List.getElem?_toArray, List.getElem?_cons_zero] at d1
  refine callsIn_of_wp Try.func84 rfl trivial ?_ rfl
  simp only [Try.ntmps84, List.size_toArray, List.length_cons, List.length_nil, Nat.reduceAdd, Nat.reduceSub, Array.replicate_succ, Array.replicate_zero, List.push_toArray, List.append_toArray, List.nil_append, List.cons_append]
  gi_wp2_with (fail)
  gi_loopw [3] (fun i wr => ∃ (k : Nat) (hk : k ≤ bs.length), i = .int .i64 ((bs.length : Int) - 1 - k) ∧ J (downTo bs k hk) wr ∧ KeepX M X W wr)
    (fun i _ => ((intOf i) + 1).toNat)
  case atStart => exact ⟨0, Nat.zero_le _, by go_num, h0, KeepX.refl M X W⟩
  case round =>
    obtain ⟨k, hk, rfl, hJs, hK⟩ := hrel
    by_cases hlt : k < bs.length
    · obtain ⟨i, hi⟩ : ∃ i : Nat, bs.length - 1 - k = i := ⟨_, rfl⟩
      have hii : (bs.length : Int) - 1 - k = i := by omega
      have hil : i < bs.length := by omega
      obtain ⟨b2, off2, hA2, hb2, e0, e1, e2, e3⟩ := (hR.keep (fun b off hb => World.cell?_of_block (hK.block b (by omega) (hX b hb)))).bound hil
      subst hA2
      rw [← Ln.bd_eq hil] at e0 e1 e2 e3
      obtain ⟨fn, tmps, assign, body, hy, hR⟩ := hY _ ⟨i, hil⟩ wr hJs (by rw [downTo_length]; exact hlt)
      dsimp only [iyv] at hy
      have c1 := (hK.bk cb hBb hXb).cell 0
      simp only [List.getElem?_toArray, List.getElem?_cons_zero] at c1
      have htk : downTo bs k hk ++ [⟨i, hil⟩] = downTo bs (k + 1) hlt := by
        rw [downTo]
        simp [hi]
      rw [htk] at hR
      rw [hii]
      have hi0 : (0 : Int) ≤ (i : Int) := Int.natCast_nonneg _
      have hi1 : (i : Int) < bs.length := by omega
      have HII := Lib.hid hii
      clear hY htk hi hii
      gi_wp2_with (fail)
      refine hR.mono ?_
      rintro e W3 (⟨rfl, hJ3, hk3⟩ | ⟨rfl, hJx3⟩)
      · gi_wp2_with (fail)
        go_roundw
        case rel => exact ⟨k + 1, hlt, by have := HII.out; go_num, hJ3, hK.trans hk3⟩
        case measure => have := HII.out; simp [intOf] <;> omega
      · gi_wp2_with (fail)
        refine bodyPost_ret (results_none rfl _ _ _) rfl ?_
        exact ⟨⟨_, rfl⟩, .inr ⟨_, trivial, hJx3⟩⟩
    · obtain rfl : k = bs.length := by omega
      have hii : (bs.length : Int) - 1 - bs.length = -1 := by omega
      rw [hii]
      clear hii
      gi_wp2_with (fail)
      go_end0
      exact ⟨⟨_, rfl⟩, .inl ⟨_, rfl, hJs⟩⟩

theorem backward_stops (n : Nat) (hn : 1 ≤ n) (Bb M B : Nat) (X : Nat → Prop) (bs : List Ln.Bd) (A : Option Addr) (c : Nat)
    (hMB : B ≤ M) (hX : ∀ k, k < B → ¬ X k) (hBb : Bb < M) (hXb : ¬ X Bb) (hlen : bs.length ≤ 2002) (w : World) (hM : M ≤ w.heap.size)
    (cb : Bk w Bb 22 #[.slice A bs.length c]) (hR : Rd w B 4 A bs.length (bcells bs)) :
    SeqStopsK Fence.wide n Try.prog 84 #[.pointer (some ⟨Bb, 0, none⟩)] (fun x : Iy bs => iyv x) (KeepX M X) (fun ys => ys = downTo bs bs.length (Nat.le_refl _)) (fun _ => True) bs.length w :=
  fun l J Jx W hW hJ _ hY h0 => backward1_in n hn l Bb M X bs A c B hMB hX hBb hXb hlen J Jx W hY (cb.below hW (by omega)) (hR.below hW (by omega)) h0

end Go.Proofs.Yteiaofgkmgllcaa
