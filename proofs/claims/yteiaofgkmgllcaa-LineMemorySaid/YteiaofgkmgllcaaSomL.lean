/-
  The reference's Some and Through, errors and all.
-/
import Derived.Test.YteiaofgkmgllcaaSomR
import Derived.Test.YteiaofgkmgllcaaThru
import Derived.Test.YteiaofgkmgllcaaApo
import Derived.Test.YteiaofgkmgllcaaWo
set_option linter.unusedVariables false
set_option linter.unusedSimpArgs false
namespace Go.Proofs.Yteiaofgkmgllcaa
open Go.RowKit Go.Shelf

set_option maxRecDepth 100000 in
set_option maxHeartbeats 2000000 in
theorem rSome_any (N : Int) (A : Option Addr) (c : Nat) (bs : List Ln.Bd) (w : World) (hR : Rd w w.heap.size 4 A bs.length (bcells bs)) (hc : Ln.Lv bs) (h14 : Ln.check N bs = 0 → N ≤ 14) :
    Calls Try.prog 23 #[.agg #[.int .i64 N, .slice A bs.length c]] w fun e w' => ∃ A' c', e = .returned (.tuple #[.slice A' (Ln.someF N bs).1.length c', .int .i64 (Ln.someF N bs).2]) ∧ Rd w' w'.heap.size 1 A' (Ln.someF N bs).1.length (ints (Ln.someF N bs).1) ∧ Below w.heap.size w w' := by
  have hB0 : Below w.heap.size w (w.alloc (.cells #[.int .i64 N, .slice A bs.length c] 24)) := (Below.refl _ _).alloc (Nat.le_refl _) _
  have hR1 := (hR.below hB0 (Nat.le_refl _)).more hB0.size
  have k0 := Bk.new w 24 #[.int .i64 N, .slice A bs.length c]
  have hP0 : ∀ w : World, Rd w w.heap.size 1 none ([] : List Int).length (ints []) := fun w => Rd.nil _ _ _ _
  by_cases hs : Ln.soundF N bs [] = 0
  · obtain ⟨hcp, hco, hck⟩ := Ln.sound_zero hs
    obtain ⟨hok, hNt⟩ := Ln.ok_of_check hck
    have hNN := (Ln.cons_iff hok).1 hco
    have h14' := h14 hck
    have hvl := Ln.valF_length bs N.toNat
    rw [show Ln.someF N bs = (Ln.valF bs N.toNat, 0) from by rw [Ln.someF, if_pos hs]]
    obtain ⟨n, hn⟩ : ∃ n, N.toNat = n := ⟨_, rfl⟩
    rw [hn] at hok hNt hvl ⊢
    subst hNt
    have hrun := fun A c w hR => rsome_run hok hc.live hNN (by omega) A c w hR
    obtain ⟨val, hval⟩ : ∃ val, Ln.valF bs n = val := ⟨_, rfl⟩
    simp only [hval] at hrun hvl ⊢
    have HRUN := Lib.hid hrun
    have HS := Lib.hid hs
    have HVL := Lib.hid hvl
    clear hs hcp hco hck hrun hval hvl hNN
    go_enter Try.func23, Try.ntmps23
    go_wp2_with fail
    refine (rpointed_any (n : Int) A c bs none 0 [] _ hR1 hc (hP0 _) (by simp)).mono ?_
    rw [HS.out]
    rintro e w1 ⟨rfl, hb1⟩
    have k1 := k0.below hb1 (by simp)
    have hB1 := hB0.trans (hb1.mono hB0.size)
    have hR2 := (hR.below hB1 (Nat.le_refl _)).more hB1.size
    have c0 := (k1.cell 0).trans rfl
    have c1 := (k1.cell 1).trans rfl
    go_wp2_with fail
    refine (HRUN.out A c _ hR2).mono ?_
    rintro e w2 ⟨g, rfl, hg, kV, hb2⟩
    have hB2 := hB1.trans (hb2.mono hB1.size)
    go_wp2_with fail
    go_ret2
    have hvl := HVL.out
    exact ⟨some ⟨g, 0, none⟩, n, by rw [hvl]; rfl, bk_rd kV (by omega), hB2⟩
  · rw [show Ln.someF N bs = ([], Ln.soundF N bs []) from by rw [Ln.someF, if_neg hs]]
    have hne : (Ln.soundF N bs [] != 0) = true := by simp [hs]
    have hcall := rpointed_any N A c bs none 0 [] _ hR1 hc (hP0 _) (by simp)
    obtain ⟨s, hss⟩ : ∃ s, Ln.soundF N bs [] = s := ⟨_, rfl⟩
    rw [hss] at hne hcall ⊢
    have HC := Lib.hid hcall
    clear hs hss hcall
    go_enter Try.func23, Try.ntmps23
    go_wp2_with fail
    refine HC.out.mono ?_
    rintro e w1 ⟨rfl, hb1⟩
    go_wp2_with fail
    go_ret2
    exact ⟨none, 0, rfl, Rd.nil _ _ _ _, hB0.trans (hb1.mono hB0.size)⟩

theorem thF_far {N : Int} {bs : List Ln.Bd} {p v : Int} (h : Ln.check N bs = 0) (hp : p < 0 ∨ N ≤ p) : Ln.thF N bs p v = ([], false, 1) := by
  have h1 : Ln.cpF N bs [p] = 1 := Ln.cpF_no (k := 0) h (by simp) (by simp [Ln.isPoint]; omega)
  rw [Ln.thF, if_neg (by rw [h1]; simp), h1]
theorem thF_v {N : Int} {bs : List Ln.Bd} {p v : Int} (h : Ln.check N bs = 0) (hp : 0 ≤ p ∧ p < N) (hv : v < -1000000 ∨ 1000000 < v) : Ln.thF N bs p v = ([], false, 1) := by
  have h1 : Ln.cpF N bs [p] = 0 := by
    rw [Ln.cpF, if_pos h, if_pos]
    simp [Ln.isPoint]
    omega
  rw [Ln.thF, if_pos h1, if_neg]
  simp [Ln.within]
  omega

/-- The tie's cells, new in memory. -/
theorem tie_rd (w : World) (p v : Int) : Rd (w.alloc (.cells #[.int .i64 0, .int .i64 p, .int .i64 v, .int .i64 0, .int .i64 p, .int .i64 0, .int .i64 (-v), .int .i64 0] 50)) (w.heap.size + 1) 4 (some ⟨w.heap.size, 0, none⟩) 2 [.int .i64 0, .int .i64 p, .int .i64 v, .int .i64 0, .int .i64 p, .int .i64 0, .int .i64 (-v), .int .i64 0] := by
  refine ⟨rfl, fun _ => ⟨w.heap.size, 0, rfl, Nat.lt_succ_self _, fun j hj => ?_⟩⟩
  rw [Nat.zero_add, (Bk.new w _ _).cell j]
  simp
theorem tie_one (p v : Int) : ∀ u ∈ ([.int .i64 0, .int .i64 p, .int .i64 v, .int .i64 0, .int .i64 p, .int .i64 0, .int .i64 (-v), .int .i64 0] : List Value), u.oneCell' = true := by
  intro u hu
  simp only [List.mem_cons, List.not_mem_nil, or_false] at hu
  rcases hu with rfl | rfl | rfl | rfl | rfl | rfl | rfl | rfl <;> rfl

/-- Through behind its checks: the system with the tie, and what comes of it. -/
structure ThC (N : Int) (bs : List Ln.Bd) (p v : Int) (cs : List Ln.Bd) : Prop where
  ok : Ln.Ok N.toNat cs
  live : ∀ b ∈ cs, b.gone = false
  eq : Ln.thF N bs p v = if Ln.consF cs N.toNat = true then (Ln.valF cs N.toNat, true, 0) else ([], false, 0)
theorem thC_zero {N : Int} {bs : List Ln.Bd} (h : Ln.check N bs = 0) (hc : Ln.Lv bs) : ThC N bs 0 0 bs := by
  obtain ⟨hok, hN⟩ := Ln.ok_of_check h
  have hpos := hok.pos
  have h1 : Ln.cpF N bs [0] = 0 := by
    rw [Ln.cpF, if_pos h, if_pos]
    simp [Ln.isPoint]
    omega
  refine ⟨hok, hc.live, ?_⟩
  rw [Ln.thF, if_pos h1, if_pos (by decide), Ln.consF_tie, Ln.valF_tie]
theorem thC_tie {N : Int} {bs : List Ln.Bd} {p v : Int} (h : Ln.check N bs = 0) (hc : Ln.Lv bs) (hp : 0 ≤ p ∧ p < N) (hv : -1000000 ≤ v ∧ v ≤ 1000000) : ThC N bs p v (bs ++ Ln.tieL p v) := by
  have h1 : Ln.cpF N bs [p] = 0 := by
    rw [Ln.cpF, if_pos h, if_pos]
    simp [Ln.isPoint]
    omega
  have h2 : Ln.within v 1000000 = true := by simp [Ln.within]; omega
  exact ⟨Ln.tie_ok h1 h2, (Ln.tie_lv hc (Ln.check_len h).1 p v).live, by rw [Ln.thF, if_pos h1, if_pos h2]⟩
theorem thF_neg {N : Int} {bs : List Ln.Bd} {v : Int} (h : Ln.check N bs = 0) (h0 : v ≠ 0) (hv : -1000000 ≤ v ∧ v ≤ 1000000) : Ln.thF N bs 0 v = ([], false, 0) := by
  obtain ⟨hok, hN⟩ := Ln.ok_of_check h
  have hpos := hok.pos
  have h1 : Ln.cpF N bs [0] = 0 := by
    rw [Ln.cpF, if_pos h, if_pos]
    simp [Ln.isPoint]
    omega
  have h2 : Ln.within v 1000000 = true := by simp [Ln.within]; omega
  rw [Ln.thF, if_pos h1, if_pos h2, if_neg (by rw [Ln.tie_neg h1 h2 h0]; simp)]

end Go.Proofs.Yteiaofgkmgllcaa
