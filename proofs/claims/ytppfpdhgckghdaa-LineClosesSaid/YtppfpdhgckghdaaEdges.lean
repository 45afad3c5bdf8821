/-
  edges: what it hands back yields the bounds that lead from a point.
-/
import Derived.Test.YtppfpdhgckghdaaNet
set_option linter.unusedVariables false
set_option linter.unusedSimpArgs false
namespace Go.Proofs.Ytppfpdhgckghdaa
open Go.RowKit Go.Shelf

attribute [local go_sem] Oper.semAt_some

set_option maxHeartbeats 1000000 in
theorem edges_in (n : Nat) (nb : Nat) (p : Int) (w : World) :
    CallsIn Fence.wide n Try.prog 119 #[.pointer (some ⟨nb, 0, none⟩), .int .i64 p] w fun e w' => e = .returned (.func (.func 133) #[] #[.pointer (some ⟨w.heap.size, 0, none⟩), .pointer (some ⟨w.heap.size + 1, 0, none⟩)]) ∧
      w' = (w.alloc (.cells #[.pointer (some ⟨nb, 0, none⟩)] 65)).alloc (.cells #[.int .i64 p] 3) := by
  refine callsIn_of_wp Try.func119 rfl trivial ?_ rfl
  simp only [Try.ntmps119, List.size_toArray, List.length_cons, List.length_nil, Nat.reduceAdd, Nat.reduceSub, Array.replicate_succ, Array.replicate_zero, List.push_toArray, List.append_toArray, List.nil_append, List.cons_append]
  gi_wp2
  go_ret
  exact ⟨rfl, rfl⟩

/-- An index of a bound that leads from p. -/
abbrev Ix (bs : List Ln.Bd) (p : Nat) : Type := { i : Nat // i ∈ Ln.idx bs p }
def ixv {bs : List Ln.Bd} {p : Nat} (i : Ix bs p) : Array Value := #[.int .i64 (i.1 : Int), .agg #[.int .i64 (Ln.bd bs i.1).f, .int .i64 (Ln.bd bs i.1).t, .int .i64 (Ln.bd bs i.1).m, .int .i64 (Ln.bd bs i.1).r]]

set_option maxRecDepth 100000 in
set_option maxHeartbeats 2000000 in
theorem edges1_in (n : Nat) (hn : 1 ≤ n) (l Bn Bp M B nb N p : Nat) (X : Nat → Prop) (bs : List Ln.Bd) (A : Option Addr) (c : Nat) (fr : List Value)
    (hMB : B ≤ M) (hX : ∀ k, k < B → ¬ X k) (hBn : Bn < M) (hBp : Bp < M) (hXn : ¬ X Bn) (hXp : ¬ X Bp) (hp : p < 128) (hlen : bs.length ≤ 2002) (J Jx : List (Ix bs p) → World → Prop) (W : World) (hJ : AbidesFrom W.heap.size J)
    (hY : ∀ pre x W, J pre W → pre.length < (Ln.idx bs p).length → YieldAt Fence.wide (n - 1) Try.prog l (ixv x) W fun e W' =>
      (e = .returned (.bool true) ∧ J (pre ++ [x]) W' ∧ KeepX M X W W') ∨ (e = .returned (.bool false) ∧ Jx (pre ++ [x]) W'))
    (cn : Bk W Bn 65 #[.pointer (some ⟨nb, 0, none⟩)]) (cp : Bk W Bp 3 #[.int .i64 p]) (hN : IsNet W B nb N bs A c fr) (h0 : J [] W) :
    CallsIn Fence.wide n Try.prog 133 #[.func (.yield l) #[] #[], .pointer (some ⟨Bn, 0, none⟩), .pointer (some ⟨Bp, 0, none⟩)] W fun e W' => (∃ v, e = .returned v) ∧
      ((∃ ys, ys = (Ln.idx bs p).attach ∧ J ys W') ∨ (∃ pre, pre <+: (Ln.idx bs p).attach ∧ Jx pre W')) := by
  have d1 := cn.cell 0
  have d2 := cp.cell 0
  obtain ⟨v, hv⟩ : ∃ v, fr[p]? = some v := ⟨fr[p]'(by rw [hN.len]; exact hp), List.getElem?_eq_getElem _⟩
  have d3 := (hN.blk.cell (2 + p)).trans ((ncells_from _ _ _ _).trans hv)
  obtain ⟨A', c', rfl, hRd⟩ := hN.rows p v hv
  have hi0 : (0 : Int) ≤ (p : Int) := Int.natCast_nonneg _
  have hi1 : (p : Int) < 128 := by omega
  simp only [List.getElem?_toArray, List.getElem?_cons_zero] at d1 d2
  refine callsIn_of_wp Try.func133 rfl trivial ?_ rfl
  simp only [Try.ntmps133, List.size_toArray, List.length_cons, List.length_nil, Nat.reduceAdd, Nat.reduceSub, Array.replicate_succ, Array.replicate_zero, List.push_toArray, List.append_toArray, List.nil_append, List.cons_append]
  gi_wp2_with (fail)
  gi_quiet (fail)
  gi_wp2_with (fail)
  have hJ0 : J [] (W.drewN nq) := hJ _ _ _ none h0 ⟨rfl, rfl, rfl, Nat.le_refl _, fun _ _ _ => rfl⟩ (fun r e => by cases e)
  gi_loopw [13] (fun i wr => ∃ k : Nat, k ≤ (Ln.idx bs p).length ∧ i = .int .i64 k ∧ J ((Ln.idx bs p).attach.take k) wr ∧ KeepX M X W wr)
    (fun i _ => (Ln.idx bs p).length - (intOf i).toNat)
  case atStart => exact ⟨0, Nat.zero_le _, rfl, hJ0, (KeepX.refl M X W).drewN _⟩
  case round =>
    obtain ⟨k, hk, rfl, hJs, hK⟩ := hrel
    have hil : (Ln.idx bs p).length ≤ bs.length := Ln.idxk_length bs bs.length p
    by_cases hlt : k < (Ln.idx bs p).length
    · have hx : (Ln.idx bs p).attach[k]? = some ⟨(Ln.idx bs p)[k], List.getElem_mem hlt⟩ := by simp [hlt]
      have hN' := hN.below (hK.below hMB hX) (Nat.le_refl _)
      obtain ⟨A'', c'', he, hRd'⟩ := hN'.rows p _ hv
      obtain ⟨b, off, hA, hb, hc⟩ := hRd'.2 (by omega)
      have hA' : A' = some ⟨b, off, none⟩ := by injection he with h1; rw [h1, hA]
      subst hA'
      obtain ⟨i, hi⟩ : ∃ i, (Ln.idx bs p)[k] = i := ⟨_, rfl⟩
      have hmem : i ∈ Ln.idx bs p := by rw [← hi]; exact List.getElem_mem hlt
      obtain ⟨hib, hif⟩ := Ln.idx_lt hmem
      have hck := hc k (by omega)
      rw [show (nlist (Ln.idx bs p))[k]? = some (.int .i64 (i : Int)) from by simp [nlist, hlt, hi]] at hck
      obtain ⟨b2, off2, hA2, hb2, e0, e1, e2, e3⟩ := hN'.bounds.bound hib
      subst hA2
      rw [← Ln.bd_eq hib] at e0 e1 e2 e3
      obtain ⟨fn, tmps, assign, body, hy, hR⟩ := hY _ ⟨i, hmem⟩ wr hJs (by simp; omega)
      dsimp only [ixv] at hy
      have c1 := (hK.bk cn hBn hXn).cell 0
      have c4 := (hN'.blk.cell 1).trans (ncells_1 _ _ _)
      have htk : (Ln.idx bs p).attach.take k ++ [⟨i, hmem⟩] = (Ln.idx bs p).attach.take (k + 1) := by
        rw [List.take_add_one, hx]
        simp [hi]
      rw [htk] at hR
      have HT := Lib.hid htk
      clear htk hi hif hx hc he hA hRd hRd' hY hv
      gi_wp2_with (fail)
      refine hR.mono ?_
      rintro e W3 (⟨rfl, hJ3, hk3⟩ | ⟨rfl, hJx3⟩)
      · gi_wp2_with (fail)
        go_roundw
        case rel => exact ⟨k + 1, by omega, by simp, hJ3, hK.trans hk3⟩
        case measure => simp [intOf]; omega
      · gi_wp2_with (fail)
        refine bodyPost_ret (results_none rfl _ _ _) rfl ?_
        exact ⟨⟨_, rfl⟩, .inr ⟨_, List.take_prefix _ _, hJx3⟩⟩
    · obtain rfl : k = (Ln.idx bs p).length := by omega
      gi_wp2_with (fail)
      go_end0
      exact ⟨⟨_, rfl⟩, .inl ⟨_, by rw [List.take_of_length_le (by simp)], hJs⟩⟩

theorem edges_stops (n : Nat) (hn : 1 ≤ n) (Bn Bp M B nb N p : Nat) (X : Nat → Prop) (bs : List Ln.Bd) (A : Option Addr) (c : Nat) (fr : List Value)
    (hMB : B ≤ M) (hX : ∀ k, k < B → ¬ X k) (hBn : Bn < M) (hBp : Bp < M) (hXn : ¬ X Bn) (hXp : ¬ X Bp) (hp : p < 128) (hlen : bs.length ≤ 2002) (w : World) (hM : M ≤ w.heap.size)
    (cn : Bk w Bn 65 #[.pointer (some ⟨nb, 0, none⟩)]) (cp : Bk w Bp 3 #[.int .i64 p]) (hN : IsNet w B nb N bs A c fr) :
    SeqStopsK Fence.wide n Try.prog 133 #[.pointer (some ⟨Bn, 0, none⟩), .pointer (some ⟨Bp, 0, none⟩)] (fun x : Ix bs p => ixv x) (KeepX M X) (fun ys => ys = (Ln.idx bs p).attach) (fun pre => pre <+: (Ln.idx bs p).attach) (Ln.idx bs p).length w :=
  fun l J Jx W hW hJ _ hY h0 => edges1_in n hn l Bn Bp M B nb N p X bs A c fr hMB hX hBn hBp hXn hXp hp hlen J Jx W hJ hY (cn.below hW (by omega)) (cp.below hW (by omega)) (hN.below hW (by omega)) h0

theorem keepX_t {M : Nat} {X : Nat → Prop} {a b c : World} (h : KeepX M X a b) (k : KeepX M X b c) : KeepX M X a c := h.trans k
theorem keepX_b {M : Nat} {X : Nat → Prop} {w : World} (hM : M ≤ w.heap.size) (W : World) (l : Nat) (o o' : Obj) (hl : w.heap.size ≤ l) (_ : W.heap[l]? = some o) (_ : o.isCells = false) (_ : o.isWalk = false) : KeepX M X W (W.putObj l o') := by
  have hg := grownBy_putObj' W l o'
  refine ⟨hg.os, hg.tape, hg.output, hg.size, fun k hk _ => ?_⟩
  rcases Nat.lt_or_ge k W.heap.size with h | h
  · exact hg.block k h (fun e => by cases e; omega)
  · have h2 : (W.putObj l o').heap.size = W.heap.size := by simp [World.putObj]
    rw [Array.getElem?_eq_none (by omega), Array.getElem?_eq_none (by omega)]

end Go.Proofs.Ytppfpdhgckghdaa
