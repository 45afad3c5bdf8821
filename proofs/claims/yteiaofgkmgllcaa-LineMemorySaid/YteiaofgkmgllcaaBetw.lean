/-
  Between, Range.
-/
import Derived.Test.YteiaofgkmgllcaaSpan
import Derived.Test.YteiaofgkmgllcaaEnd
set_option linter.unusedVariables false
set_option linter.unusedSimpArgs false
namespace Go.Proofs.Yteiaofgkmgllcaa
open Go.RowKit

def spanV (l h : Int × Bool) : Value := .agg #[.int .i64 l.1, .int .i64 h.1, .bool l.2, .bool h.2]

theorem two_rd3 (w : World) (o o' : Obj) (a b : Int) : Rd (((w.alloc o).alloc o').alloc (.cells #[.int .i64 a, .int .i64 b] 3)) (((w.alloc o).alloc o').alloc (.cells #[.int .i64 a, .int .i64 b] 3)).heap.size 1 (some ⟨w.heap.size + 1 + 1, 0, none⟩) [a, b].length (ints [a, b]) := by
  have h := two_rd (w.alloc o) o' a b
  rw [show (w.alloc o).heap.size = w.heap.size + 1 from World.size_alloc _ _] at h
  exact h

section
variable (N : Int) (A : Option Addr) (c : Nat) (bs : List Ln.Bd) (a b : Int) (w : World) 

set_option maxRecDepth 100000 in
set_option maxHeartbeats 1000000 in
theorem between_bad (hR : Rd w w.heap.size 4 A bs.length (bcells bs)) (hc : Ln.Lv bs) (hs : Ln.soundF N bs [a, b] ≠ 0) :
    Calls Try.prog 18 #[.agg #[.int .i64 N, .slice A bs.length c], .int .i64 a, .int .i64 b] w fun e w' => e = .returned (.tuple #[spanV (0, false) (0, false), .int .i64 (Ln.soundF N bs [a, b])]) ∧ Below w.heap.size w w' := by
  have hB0 : Below w.heap.size w (((w.alloc (.cells #[.int .i64 N, .slice A bs.length c] 24)).alloc (.cells #[.int .i64 0, .int .i64 0, .bool false, .bool false] 43)).alloc (.cells #[.int .i64 a, .int .i64 b] 3)) := (((Below.refl _ _).alloc (Nat.le_refl _) _).alloc (by simp) _).alloc (by simp; omega) _
  have hR1 := (hR.below hB0 (Nat.le_refl _)).more hB0.size
  have hP1 := two_rd3 w (.cells #[.int .i64 N, .slice A bs.length c] 24) (.cells #[.int .i64 0, .int .i64 0, .bool false, .bool false] 43) a b
  have kS := (Bk.new (w.alloc (.cells #[.int .i64 N, .slice A bs.length c] 24)) 43 #[.int .i64 0, .int .i64 0, .bool false, .bool false]).alloc (.cells #[.int .i64 a, .int .i64 b] 3)
  rw [show (w.alloc (.cells #[.int .i64 N, .slice A bs.length c] 24)).heap.size = w.heap.size + 1 from World.size_alloc _ _] at kS
  have hne : (Ln.soundF N bs [a, b] != 0) = true := by simp [hs]
  by_cases hcp : Ln.cpF N bs [a, b] = 0
  · have hco : Ln.consF bs N.toNat = false := by
      rcases h : Ln.consF bs N.toNat with _ | _
      · rfl
      · exact absurd (by rw [Ln.soundF, if_pos hcp, if_pos h]) hs
    have hs2 : Ln.soundF N bs [a, b] = 10 := by rw [Ln.soundF, if_pos hcp, if_neg (by rw [hco]; simp)]
    rw [hs2]
    have HCP := Lib.hid hcp
    have HCO := Lib.hid hco
    clear hs hs2 hne hcp hco
    go_enter Try.func18, Try.ntmps18
    go_wp2_with fail
    refine (sound_circle N A c bs (some ⟨w.heap.size + 1 + 1, 0, none⟩) 2 [a, b] _ hR1 hc hP1 (by simp) HCP.out HCO.out).mono ?_
    rintro e w1 ⟨rfl, hb1⟩
    have k1 := kS.below hb1 (by simp)
    have c0 := k1.cell 0
    have c1 := k1.cell 1
    have c2 := k1.cell 2
    have c3 := k1.cell 3
    have f0 := k1.frozen 0
    have f1 := k1.frozen 1
    have f2 := k1.frozen 2
    have f3 := k1.frozen 3
    simp only [List.getElem?_toArray, List.getElem?_cons_zero, List.getElem?_cons_succ] at c0 c1 c2 c3
    have k5 := (((k1.set 0 (.int .i64 0)).set 1 (.int .i64 0)).set 2 (.bool false)).set 3 (.bool false)
    have hB5 := ((((hB0.trans (hb1.mono hB0.size)).setCell (p := ⟨w.heap.size + 1, 0, none⟩) (by simp) (.int .i64 0)).setCell (p := ⟨w.heap.size + 1, 1, none⟩) (by simp) (.int .i64 0)).setCell (p := ⟨w.heap.size + 1, 2, none⟩) (by simp) (.bool false)).setCell (p := ⟨w.heap.size + 1, 3, none⟩) (by simp) (.bool false)
    have K5 := Lib.hid k5
    have HB5 := Lib.hid hB5
    clear k5 hB5
    go_wp2_with fail
    exact bodyPost_ret (v := .tuple #[.agg #[.int .i64 0, .int .i64 0, .bool false, .bool false], .int .i64 10]) (results_cell_row_tmp rfl _ _ (w.heap.size + 1) 43 _ (0, 0) _ _ rfl rfl K5.out Try.underlying43 rfl (by kernel_rfl)) rfl ⟨rfl, HB5.out⟩
  · have hs2 : Ln.soundF N bs [a, b] = Ln.cpF N bs [a, b] := by rw [Ln.soundF, if_neg hcp]
    rw [hs2] at hne ⊢
    have HCP := Lib.hid hcp
    clear hs hs2 hcp
    go_enter Try.func18, Try.ntmps18
    go_wp2_with fail
    refine (sound_bad N A c bs (some ⟨w.heap.size + 1 + 1, 0, none⟩) 2 [a, b] _ hR1 hc hP1 (by simp) HCP.out).mono ?_
    rintro e w1 ⟨rfl, hb1⟩
    have k1 := kS.below hb1 (by simp)
    have c0 := k1.cell 0
    have c1 := k1.cell 1
    have c2 := k1.cell 2
    have c3 := k1.cell 3
    have f0 := k1.frozen 0
    have f1 := k1.frozen 1
    have f2 := k1.frozen 2
    have f3 := k1.frozen 3
    simp only [List.getElem?_toArray, List.getElem?_cons_zero, List.getElem?_cons_succ] at c0 c1 c2 c3
    have k5 := (((k1.set 0 (.int .i64 0)).set 1 (.int .i64 0)).set 2 (.bool false)).set 3 (.bool false)
    have hB5 := ((((hB0.trans (hb1.mono hB0.size)).setCell (p := ⟨w.heap.size + 1, 0, none⟩) (by simp) (.int .i64 0)).setCell (p := ⟨w.heap.size + 1, 1, none⟩) (by simp) (.int .i64 0)).setCell (p := ⟨w.heap.size + 1, 2, none⟩) (by simp) (.bool false)).setCell (p := ⟨w.heap.size + 1, 3, none⟩) (by simp) (.bool false)
    have K5 := Lib.hid k5
    have HB5 := Lib.hid hB5
    clear k5 hB5
    go_wp2_with fail
    exact bodyPost_ret (v := .tuple #[.agg #[.int .i64 0, .int .i64 0, .bool false, .bool false], .int .i64 (Ln.cpF N bs [a, b])]) (results_cell_row_tmp rfl _ _ (w.heap.size + 1) 43 _ (0, 0) _ _ rfl rfl K5.out Try.underlying43 rfl (by kernel_rfl)) rfl ⟨rfl, HB5.out⟩

set_option maxRecDepth 100000 in
set_option maxHeartbeats 1000000 in
theorem between_ok (hR : Rd w w.heap.size 4 A bs.length (bcells bs)) (hc : Ln.Lv bs) (hs : Ln.soundF N bs [a, b] = 0) :
    Calls Try.prog 18 #[.agg #[.int .i64 N, .slice A bs.length c], .int .i64 a, .int .i64 b] w fun e w' =>
      e = .returned (.tuple #[spanV (Ln.lowF 0 (Ln.dF N bs b a)) (Ln.highF 0 (Ln.dF N bs a b)), .int .i64 0]) ∧ Below w.heap.size w w' := by
  have hcp : Ln.cpF N bs [a, b] = 0 := by
    unfold Ln.soundF at hs
    split at hs
    · assumption
    · exact hs
  have hco : Ln.consF bs N.toNat = true := by
    rcases h : Ln.consF bs N.toNat with _ | _
    · rw [Ln.soundF, if_pos hcp, if_neg (by rw [h]; simp)] at hs
      cases hs
    · rfl
  obtain ⟨hok, hN⟩ := Ln.ok_of_check (Ln.cpF_zero hcp)
  have pa := Ln.pts_of hcp (p := a) (by simp)
  have pb := Ln.pts_of hcp (p := b) (by simp)
  obtain ⟨a', rfl⟩ : ∃ a' : Nat, a = a' := ⟨a.toNat, by omega⟩
  obtain ⟨b', rfl⟩ : ∃ b' : Nat, b = b' := ⟨b.toNat, by omega⟩
  have htop := hok.top
  have hix1 := fun w => run_index_av (Ln.distF_small hok a').1 (b := b') (by omega) w
  have hix2 := fun w => run_index_av (Ln.distF_small hok b').1 (b := a') (by omega) w
  have hs1 := (Ln.distF_small hok a').2.at_ (k := b') (by have := (Ln.distF_small hok a').1; omega)
  have hs2 := (Ln.distF_small hok b').2.at_ (k := a') (by have := (Ln.distF_small hok b').1; omega)
  have hdf1 : Ln.dF N bs a' b' = Ln.gt (Ln.distF bs N.toNat a') b' := by rw [Ln.dF]; simp
  have hdf2 : Ln.dF N bs b' a' = Ln.gt (Ln.distF bs N.toNat b') a' := by rw [Ln.dF]; simp
  rw [hdf1, hdf2]
  have HCP := Lib.hid hcp
  have HCO := Lib.hid hco
  have HS1 := Lib.hid hs1
  have HS2 := Lib.hid hs2
  clear hs hcp hco hdf1 hdf2 hs1 hs2
  have hB0 : Below w.heap.size w (((w.alloc (.cells #[.int .i64 N, .slice A bs.length c] 24)).alloc (.cells #[.int .i64 0, .int .i64 0, .bool false, .bool false] 43)).alloc (.cells #[.int .i64 a', .int .i64 b'] 3)) := (((Below.refl _ _).alloc (Nat.le_refl _) _).alloc (by simp) _).alloc (by simp; omega) _
  go_enter Try.func18, Try.ntmps18
  have hR1 := (hR.below hB0 (Nat.le_refl _)).more hB0.size
  have hP1 := two_rd3 w (.cells #[.int .i64 N, .slice A bs.length c] 24) (.cells #[.int .i64 0, .int .i64 0, .bool false, .bool false] 43) (a' : Int) (b' : Int)
  have kS := (Bk.new (w.alloc (.cells #[.int .i64 N, .slice A bs.length c] 24)) 43 #[.int .i64 0, .int .i64 0, .bool false, .bool false]).alloc (.cells #[.int .i64 a', .int .i64 b'] 3)
  rw [show (w.alloc (.cells #[.int .i64 N, .slice A bs.length c] 24)).heap.size = w.heap.size + 1 from World.size_alloc _ _] at kS
  go_wp2_with fail
  refine (sound_ok N A c bs (some ⟨w.heap.size + 1 + 1, 0, none⟩) 2 [(a' : Int), (b' : Int)] _ hR1 hc hP1 (by simp) HCP.out HCO.out).mono ?_
  rintro e w1 ⟨nb, fr, rfl, hNt, hb1⟩
  have kS1 := kS.below hb1 (by simp)
  have hB1 := hB0.trans (hb1.mono hB0.size)
  go_wp2_with fail
  refine (distances_any hok _ nb A c fr b' (by omega) _ hNt (Nat.le_refl _)).mono ?_
  rintro e w2 ⟨rfl, hb2⟩
  have kS2 := kS1.below hb2 kS1.lt
  have hB2 := hB1.trans (hb2.mono hB1.size)
  have hN2 := hNt.below hb2 (Nat.le_refl _)
  have z12 := hb2.size
  go_wp2_with fail
  refine (lowEnd_any 0 _ (by omega) (HS2.out.imp id (fun h => ⟨by omega, by omega⟩)) _).mono ?_
  rintro e w3 ⟨rfl, hb3⟩
  have kS3 := kS2.below hb3 kS2.lt
  have hB3 := hB2.trans (hb3.mono hB2.size)
  have hN3 := hN2.below hb3 z12
  have z23 := hb3.size
  have hN4 := fun o => hN3.below ((Below.refl _ w3).alloc (Nat.le_refl _) o) (Nat.le_trans z12 z23)
  go_wp2_with fail
  refine (distances_any hok _ nb A c fr a' (by omega) _ (hN4 _) (by simp; omega)).mono ?_
  rintro e w4 ⟨rfl, hb4⟩
  obtain ⟨l, hl⟩ : ∃ l, Ln.lowF 0 (Ln.gt (Ln.distF bs N.toNat b') a') = l := ⟨_, rfl⟩
  rw [hl] at hb4 ⊢
  have kL4 := (Bk.new w3 86 #[.int .i64 l.1, .bool l.2]).below hb4 (by simp)
  have kS4 := (kS3.alloc (.cells #[.int .i64 l.1, .bool l.2] 86)).below hb4 (by have := kS3.lt; simp; omega)
  have hB4 := (hB3.alloc hB3.size (.cells #[.int .i64 l.1, .bool l.2] 86)).trans (hb4.mono (by have := hB3.size; simp; omega))
  have HL := Lib.hid hl
  clear hl
  go_wp2_with fail
  refine (highEnd_any 0 _ (by omega) (HS1.out.imp id (fun h => ⟨by omega, by omega⟩)) _).mono ?_
  rintro e w5 ⟨rfl, hb5⟩
  obtain ⟨h, hh⟩ : ∃ h, Ln.highF 0 (Ln.gt (Ln.distF bs N.toNat a') b') = h := ⟨_, rfl⟩
  rw [hh]
  have HH := Lib.hid hh
  clear hh
  have kL5 := kL4.below hb5 kL4.lt
  have kS5 := kS4.below hb5 kS4.lt
  have hB5 := hB4.trans (hb5.mono hB4.size)
  have zL := kL5.lt
  have zS := kS5.lt
  have l0 := kL5.cell 0
  have l1 := kL5.cell 1
  have c0 := kS5.cell 0
  have c1 := kS5.cell 1
  have c2 := kS5.cell 2
  have c3 := kS5.cell 3
  have f0 := kS5.frozen 0
  have f1 := kS5.frozen 1
  have f2 := kS5.frozen 2
  have f3 := kS5.frozen 3
  simp only [List.getElem?_toArray, List.getElem?_cons_zero, List.getElem?_cons_succ] at c0 c1 c2 c3 l0 l1
  have k6 := ((((kS5.set 0 (.int .i64 l.1)).set 1 (.int .i64 h.1)).set 2 (.bool l.2)).set 3 (.bool h.2)).alloc (.cells #[.int .i64 h.1, .bool h.2] 86)
  have hB6 := ((((hB5.setCell (p := ⟨w.heap.size + 1, 0, none⟩) (by simp) (.int .i64 l.1)).setCell (p := ⟨w.heap.size + 1, 1, none⟩) (by simp) (.int .i64 h.1)).setCell (p := ⟨w.heap.size + 1, 2, none⟩) (by simp) (.bool l.2)).setCell (p := ⟨w.heap.size + 1, 3, none⟩) (by simp) (.bool h.2)).alloc (by have := hB5.size; simp; omega) (.cells #[.int .i64 h.1, .bool h.2] 86)
  have K6 := Lib.hid k6
  have HB6 := Lib.hid hB6
  clear k6 hB6 kL4 kL5 kS1 kS2 kS3 kS4 kS5 hB5 hB4 hB3 hB2 hB1 hb4 hb5 hb3 hb2 hb1
  go_wp2_with fail
  rw [HL.out, HH.out]
  exact bodyPost_ret (v := .tuple #[.agg #[.int .i64 l.1, .int .i64 h.1, .bool l.2, .bool h.2], .int .i64 0]) (results_cell_row_tmp rfl _ _ (w.heap.size + 1) 43 _ (0, 0) _ _ rfl rfl K6.out Try.underlying43 rfl (by kernel_rfl)) rfl ⟨rfl, HB6.out⟩

theorem between_any (hR : Rd w w.heap.size 4 A bs.length (bcells bs)) (hc : Ln.Lv bs) :
    Calls Try.prog 18 #[.agg #[.int .i64 N, .slice A bs.length c], .int .i64 a, .int .i64 b] w fun e w' => e = .returned (.tuple #[spanV (Ln.btF N bs a b).1 (Ln.btF N bs a b).2.1, .int .i64 (Ln.btF N bs a b).2.2]) ∧ Below w.heap.size w w' := by
  by_cases hs : Ln.soundF N bs [a, b] = 0
  · rw [Ln.btF, if_pos hs]
    exact between_ok N A c bs a b w hR hc hs
  · rw [Ln.btF, if_neg hs]
    exact between_bad N A c bs a b w hR hc hs

theorem distance_any (hR : Rd w w.heap.size 4 A bs.length (bcells bs)) (hc : Ln.Lv bs) :
    Calls Try.prog 27 #[.agg #[.int .i64 N, .slice A bs.length c], .int .i64 a, .int .i64 b] w fun e w' => e = .returned (.tuple #[.int .i64 (Ln.diF N bs a b).1, .bool (Ln.diF N bs a b).2.1, .int .i64 (Ln.diF N bs a b).2.2]) ∧ Below w.heap.size w w' := by
  by_cases hs : Ln.soundF N bs [a, b] = 0
  · rw [Ln.diF, if_pos hs]
    refine (distance_ok N A c bs a b w hR hc hs).mono ?_
    rintro e w' ⟨rfl, hb⟩
    refine ⟨?_, hb⟩
    split <;> rfl
  · rw [Ln.diF, if_neg hs]
    exact distance_bad N A c bs a b w hR hc hs

set_option maxRecDepth 100000 in
set_option maxHeartbeats 1000000 in
theorem range_any (hR : Rd w w.heap.size 4 A bs.length (bcells bs)) (hc : Ln.Lv bs) :
    Calls Try.prog 29 #[.agg #[.int .i64 N, .slice A bs.length c], .int .i64 b] w fun e w' => e = .returned (.tuple #[spanV (Ln.btF N bs 0 b).1 (Ln.btF N bs 0 b).2.1, .int .i64 (Ln.btF N bs 0 b).2.2]) ∧ Below w.heap.size w w' := by
  have hB0 : Below w.heap.size w ((w.alloc (.cells #[.int .i64 N, .slice A bs.length c] 24)).alloc (.cells #[.int .i64 0, .int .i64 0, .bool false, .bool false] 43)) := ((Below.refl _ _).alloc (Nat.le_refl _) _).alloc (by simp) _
  have hR1 := (hR.below hB0 (Nat.le_refl _)).more hB0.size
  have kS := Bk.new (w.alloc (.cells #[.int .i64 N, .slice A bs.length c] 24)) 43 #[.int .i64 0, .int .i64 0, .bool false, .bool false]
  rw [show (w.alloc (.cells #[.int .i64 N, .slice A bs.length c] 24)).heap.size = w.heap.size + 1 from World.size_alloc _ _] at kS
  obtain ⟨r, hr⟩ : ∃ r, Ln.btF N bs 0 b = r := ⟨_, rfl⟩
  have hbt := fun w h => between_any N A c bs 0 b w h hc
  rw [hr] at hbt ⊢
  clear hr
  have HBT := Lib.hid hbt
  clear hbt
  go_enter Try.func29, Try.ntmps29
  go_wp2_with fail
  refine (HBT.out _ hR1).mono ?_
  rintro e w1 ⟨rfl, hb1⟩
  have k1 := kS.below hb1 (by simp)
  have c0 := k1.cell 0
  have c1 := k1.cell 1
  have c2 := k1.cell 2
  have c3 := k1.cell 3
  have f0 := k1.frozen 0
  have f1 := k1.frozen 1
  have f2 := k1.frozen 2
  have f3 := k1.frozen 3
  simp only [List.getElem?_toArray, List.getElem?_cons_zero, List.getElem?_cons_succ] at c0 c1 c2 c3
  have k5 := (((k1.set 0 (.int .i64 r.1.1)).set 1 (.int .i64 r.2.1.1)).set 2 (.bool r.1.2)).set 3 (.bool r.2.1.2)
  have hB5 := ((((hB0.trans (hb1.mono hB0.size)).setCell (p := ⟨w.heap.size + 1, 0, none⟩) (by simp) (.int .i64 r.1.1)).setCell (p := ⟨w.heap.size + 1, 1, none⟩) (by simp) (.int .i64 r.2.1.1)).setCell (p := ⟨w.heap.size + 1, 2, none⟩) (by simp) (.bool r.1.2)).setCell (p := ⟨w.heap.size + 1, 3, none⟩) (by simp) (.bool r.2.1.2)
  have K5 := Lib.hid k5
  have HB5 := Lib.hid hB5
  clear k5 hB5
  unfold spanV
  go_wp2_with fail
  exact bodyPost_ret (v := .tuple #[.agg #[.int .i64 r.1.1, .int .i64 r.2.1.1, .bool r.1.2, .bool r.2.1.2], .int .i64 r.2.2]) (results_cell_row_tmp rfl _ _ (w.heap.size + 1) 43 _ (0, 0) _ _ rfl rfl K5.out Try.underlying43 rfl (by kernel_rfl)) rfl ⟨rfl, HB5.out⟩
end

end Go.Proofs.Yteiaofgkmgllcaa
