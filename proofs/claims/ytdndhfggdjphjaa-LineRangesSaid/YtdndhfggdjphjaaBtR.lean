/-
  The reference's Between, Range.
-/
import Derived.Test.YtdndhfggdjphjaaSpR
set_option linter.unusedVariables false
set_option linter.unusedSimpArgs false
namespace Go.Proofs.Ytdndhfggdjphjaa
open Go.RowKit

set_option maxRecDepth 100000 in
set_option maxHeartbeats 1000000 in
theorem rbetween_any (N : Int) (A : Option Addr) (c : Nat) (bs : List Ln.Bd) (a b : Int) (w : World) (hR : Rd w w.heap.size 4 A bs.length (bcells bs)) (hc : Ln.Lv bs) (h14 : Ln.check N bs = 0 → N ≤ 14) :
    Calls Try.prog 20 #[.agg #[.int .i64 N, .slice A bs.length c], .int .i64 a, .int .i64 b] w fun e w' => e = .returned (.tuple #[spanV (Ln.btF N bs a b).1 (Ln.btF N bs a b).2.1, .int .i64 (Ln.btF N bs a b).2.2]) ∧ Below w.heap.size w w' := by
  have hB0 : Below w.heap.size w (((w.alloc (.cells #[.int .i64 N, .slice A bs.length c] 24)).alloc (.cells #[.int .i64 0, .int .i64 0, .bool false, .bool false] 28)).alloc (.cells #[.int .i64 a, .int .i64 b] 3)) := (((Below.refl _ _).alloc (Nat.le_refl _) _).alloc (by simp) _).alloc (by simp; omega) _
  have hR1 := (hR.below hB0 (Nat.le_refl _)).more hB0.size
  have hP1 := two_rd3 w (.cells #[.int .i64 N, .slice A bs.length c] 24) (.cells #[.int .i64 0, .int .i64 0, .bool false, .bool false] 28) a b
  have kS := (Bk.new (w.alloc (.cells #[.int .i64 N, .slice A bs.length c] 24)) 28 #[.int .i64 0, .int .i64 0, .bool false, .bool false]).alloc (.cells #[.int .i64 a, .int .i64 b] 3)
  rw [show (w.alloc (.cells #[.int .i64 N, .slice A bs.length c] 24)).heap.size = w.heap.size + 1 from World.size_alloc _ _] at kS
  have k0 := ((Bk.new w 24 #[.int .i64 N, .slice A bs.length c]).alloc (.cells #[.int .i64 0, .int .i64 0, .bool false, .bool false] 28)).alloc (.cells #[.int .i64 a, .int .i64 b] 3)
  by_cases hs : Ln.soundF N bs [a, b] = 0
  · have hbt : Ln.btF N bs a b = (Ln.lowF 0 (Ln.dF N bs b a), Ln.highF 0 (Ln.dF N bs a b), 0) := by rw [Ln.btF, if_pos hs]
    rw [hbt]
    have hpt : ∀ p, p ∈ [a, b] → 0 ≤ p ∧ p < N := fun p hp => Ln.pts_of (Ln.sound_zero hs).1 hp
    obtain ⟨ha0, ha1⟩ := hpt a (by simp)
    obtain ⟨hb0, hb1⟩ := hpt b (by simp)
    have h14' := h14 (Ln.sound_zero hs).2.2
    have HS := Lib.hid hs
    clear hs hbt hpt
    go_enter Try.func20, Try.ntmps20
    go_wp2_with fail
    refine (rpointed_any N A c bs (some ⟨w.heap.size + 1 + 1, 0, none⟩) 2 [a, b] _ hR1 hc hP1 (by simp)).mono ?_
    rw [HS.out]
    rintro e w1 ⟨rfl, hb1'⟩
    have kS1 := kS.below hb1' (by simp)
    have k1 := k0.below hb1' (by simp; omega)
    have c0 := k1.cell 0
    have c1 := k1.cell 1
    simp only [List.getElem?_toArray, List.getElem?_cons_zero, List.getElem?_cons_succ] at c0 c1
    have hB1 := hB0.trans (hb1'.mono hB0.size)
    have hR2 := (hR.below hB1 (Nat.le_refl _)).more hB1.size
    go_wp2_with fail
    refine (matrix_sound HS.out hc h14' A c _ hR2).mono ?_
    rintro e w2 ⟨G, blk, D, rfl, hM, hA, hG, hb2, hD, hsm⟩
    have kS2 := kS1.below hb2 kS1.lt
    have hB2 := hB1.trans (hb2.mono hB1.size)
    obtain ⟨a', rfl⟩ : ∃ a' : Nat, a = a' := ⟨a.toNat, by omega⟩
    obtain ⟨b', rfl⟩ : ∃ b' : Nat, b = b' := ⟨b.toNat, by omega⟩
    have ha' : a' < N.toNat := by omega
    have hb' : b' < N.toNat := by omega
    have hsp := rspan_any w2 hM ha' hb' (by omega) (hsm b' a' hb' ha')
    rw [hD a' b' ha' hb', hD b' a' hb' ha', lowR_far, highR_far] at hsp
    obtain ⟨l, hl⟩ : ∃ l, Ln.lowF 0 (Ln.dF N bs b' a') = l := ⟨_, rfl⟩
    obtain ⟨h, hh⟩ : ∃ h, Ln.highF 0 (Ln.dF N bs a' b') = h := ⟨_, rfl⟩
    rw [hl, hh] at hsp
    have HSP := Lib.hid hsp
    have HL := Lib.hid hl
    have HH := Lib.hid hh
    clear hsp hD hsm hM hA c0 c1 hl hh
    go_wp2_with fail
    refine HSP.out.mono ?_
    rintro e w3 ⟨rfl, hb3⟩
    have kS3 := kS2.below hb3 kS2.lt
    have hB3 := hB2.trans (hb3.mono hB2.size)
    have zS := kS3.lt
    have c0 := kS3.cell 0
    have c1 := kS3.cell 1
    have c2 := kS3.cell 2
    have c3 := kS3.cell 3
    have f0 := kS3.frozen 0
    have f1 := kS3.frozen 1
    have f2 := kS3.frozen 2
    have f3 := kS3.frozen 3
    simp only [List.getElem?_toArray, List.getElem?_cons_zero, List.getElem?_cons_succ] at c0 c1 c2 c3
    have k6 := (((kS3.set 0 (.int .i64 l.1)).set 1 (.int .i64 h.1)).set 2 (.bool l.2)).set 3 (.bool h.2)
    have hB6 := (((hB3.setCell (p := ⟨w.heap.size + 1, 0, none⟩) (by simp) (.int .i64 l.1)).setCell (p := ⟨w.heap.size + 1, 1, none⟩) (by simp) (.int .i64 h.1)).setCell (p := ⟨w.heap.size + 1, 2, none⟩) (by simp) (.bool l.2)).setCell (p := ⟨w.heap.size + 1, 3, none⟩) (by simp) (.bool h.2)
    have K6 := Lib.hid k6
    have HB6 := Lib.hid hB6
    clear k6 hB6 kS kS1 kS2 kS3 hB3 hB2 hB1 k0 k1
    unfold spanV
    go_wp2_with fail
    rw [HL.out, HH.out]
    exact bodyPost_ret (v := .tuple #[.agg #[.int .i64 l.1, .int .i64 h.1, .bool l.2, .bool h.2], .int .i64 0]) (results_cell_row_tmp rfl _ _ (w.heap.size + 1) 28 _ (0, 0) _ _ rfl rfl K6.out Try.underlying28 rfl (by kernel_rfl)) rfl ⟨rfl, HB6.out⟩
  · have hbt : Ln.btF N bs a b = ((0, false), (0, false), Ln.soundF N bs [a, b]) := by rw [Ln.btF, if_neg hs]
    rw [hbt]
    have hne : (Ln.soundF N bs [a, b] != 0) = true := by simp [hs]
    obtain ⟨s, hss⟩ : ∃ s, Ln.soundF N bs [a, b] = s := ⟨_, rfl⟩
    rw [hss] at hne ⊢
    have HS := Lib.hid hss
    clear hs hbt hss
    go_enter Try.func20, Try.ntmps20
    go_wp2_with fail
    refine (rpointed_any N A c bs (some ⟨w.heap.size + 1 + 1, 0, none⟩) 2 [a, b] _ hR1 hc hP1 (by simp)).mono ?_
    rw [HS.out]
    rintro e w1 ⟨rfl, hb1'⟩
    have kS3 := kS.below hb1' (by simp)
    have zS := kS3.lt
    have hB3 := hB0.trans (hb1'.mono hB0.size)
    have c0 := kS3.cell 0
    have c1 := kS3.cell 1
    have c2 := kS3.cell 2
    have c3 := kS3.cell 3
    have f0 := kS3.frozen 0
    have f1 := kS3.frozen 1
    have f2 := kS3.frozen 2
    have f3 := kS3.frozen 3
    simp only [List.getElem?_toArray, List.getElem?_cons_zero, List.getElem?_cons_succ] at c0 c1 c2 c3
    have k6 := (((kS3.set 0 (.int .i64 0)).set 1 (.int .i64 0)).set 2 (.bool false)).set 3 (.bool false)
    have hB6 := (((hB3.setCell (p := ⟨w.heap.size + 1, 0, none⟩) (by simp) (.int .i64 0)).setCell (p := ⟨w.heap.size + 1, 1, none⟩) (by simp) (.int .i64 0)).setCell (p := ⟨w.heap.size + 1, 2, none⟩) (by simp) (.bool false)).setCell (p := ⟨w.heap.size + 1, 3, none⟩) (by simp) (.bool false)
    have K6 := Lib.hid k6
    have HB6 := Lib.hid hB6
    clear k6 hB6 kS kS3 hB3
    go_wp2_with fail
    exact bodyPost_ret (v := .tuple #[.agg #[.int .i64 0, .int .i64 0, .bool false, .bool false], .int .i64 s]) (results_cell_row_tmp rfl _ _ (w.heap.size + 1) 28 _ (0, 0) _ _ rfl rfl K6.out Try.underlying28 rfl (by kernel_rfl)) rfl ⟨rfl, HB6.out⟩

set_option maxRecDepth 100000 in
set_option maxHeartbeats 1000000 in
theorem rrange_any (N : Int) (A : Option Addr) (c : Nat) (bs : List Ln.Bd) (b : Int) (w : World) (h14 : Ln.check N bs = 0 → N ≤ 14) (hR : Rd w w.heap.size 4 A bs.length (bcells bs)) (hc : Ln.Lv bs) :
    Calls Try.prog 18 #[.agg #[.int .i64 N, .slice A bs.length c], .int .i64 b] w fun e w' => e = .returned (.tuple #[spanV (Ln.btF N bs 0 b).1 (Ln.btF N bs 0 b).2.1, .int .i64 (Ln.btF N bs 0 b).2.2]) ∧ Below w.heap.size w w' := by
  have hB0 : Below w.heap.size w ((w.alloc (.cells #[.int .i64 N, .slice A bs.length c] 24)).alloc (.cells #[.int .i64 0, .int .i64 0, .bool false, .bool false] 28)) := ((Below.refl _ _).alloc (Nat.le_refl _) _).alloc (by simp) _
  have hR1 := (hR.below hB0 (Nat.le_refl _)).more hB0.size
  have kS := Bk.new (w.alloc (.cells #[.int .i64 N, .slice A bs.length c] 24)) 28 #[.int .i64 0, .int .i64 0, .bool false, .bool false]
  rw [show (w.alloc (.cells #[.int .i64 N, .slice A bs.length c] 24)).heap.size = w.heap.size + 1 from World.size_alloc _ _] at kS
  obtain ⟨r, hr⟩ : ∃ r, Ln.btF N bs 0 b = r := ⟨_, rfl⟩
  have hbt := fun w h => rbetween_any N A c bs 0 b w h hc h14
  rw [hr] at hbt ⊢
  clear hr
  have HBT := Lib.hid hbt
  clear hbt
  go_enter Try.func18, Try.ntmps18
  go_wp2_with fail
  refine (HBT.out _ hR1).mono ?_
  rintro e w1 ⟨rfl, hb1⟩
  have k1 := kS.below hb1 (by simp)
  have c0 := k1.cell 0
  have c1 := k1.cell 1
  have c2 := k1.cell 2
  have c3 := k1.cell 3
  have f0 := k1.frozen 0
  have f1 := k1.frozen 1
  have f2 := k1.frozen 2
  have f3 := k1.frozen 3
  simp only [List.getElem?_toArray, List.getElem?_cons_zero, List.getElem?_cons_succ] at c0 c1 c2 c3
  have k5 := (((k1.set 0 (.int .i64 r.1.1)).set 1 (.int .i64 r.2.1.1)).set 2 (.bool r.1.2)).set 3 (.bool r.2.1.2)
  have hB5 := ((((hB0.trans (hb1.mono hB0.size)).setCell (p := ⟨w.heap.size + 1, 0, none⟩) (by simp) (.int .i64 r.1.1)).setCell (p := ⟨w.heap.size + 1, 1, none⟩) (by simp) (.int .i64 r.2.1.1)).setCell (p := ⟨w.heap.size + 1, 2, none⟩) (by simp) (.bool r.1.2)).setCell (p := ⟨w.heap.size + 1, 3, none⟩) (by simp) (.bool r.2.1.2)
  have K5 := Lib.hid k5
  have HB5 := Lib.hid hB5
  clear k5 hB5
  unfold spanV
  go_wp2_with fail
  exact bodyPost_ret (v := .tuple #[.agg #[.int .i64 r.1.1, .int .i64 r.2.1.1, .bool r.1.2, .bool r.2.1.2], .int .i64 r.2.2]) (results_cell_row_tmp rfl _ _ (w.heap.size + 1) 28 _ (0, 0) _ _ rfl rfl K5.out Try.underlying28 rfl (by kernel_rfl)) rfl ⟨rfl, HB5.out⟩

end Go.Proofs.Ytdndhfggdjphjaa
