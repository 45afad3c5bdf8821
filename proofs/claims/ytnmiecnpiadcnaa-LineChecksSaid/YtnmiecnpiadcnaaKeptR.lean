/-
  The reference's Kept.
-/
import Derived.Test.YtnmiecnpiadcnaaKept
import Derived.Test.YtnmiecnpiadcnaaVals
set_option linter.unusedVariables false
set_option linter.unusedSimpArgs false
namespace Go.Proofs.Ytnmiecnpiadcnaa
open Go.RowKit

set_option maxRecDepth 100000 in
set_option maxHeartbeats 1000000 in
theorem rkept_any (N : Int) (A : Option Addr) (c : Nat) (bs : List Ln.Bd) (A2 : Option Addr) (c2 : Nat) (y : List Int) (w : World) (hR : Rd w w.heap.size 4 A bs.length (bcells bs)) (hc : bs.length ≤ 1000000) (hY : Rd w w.heap.size 1 A2 y.length (ints y)) (hyl : y.length ≤ 1000000) :
    Calls Try.prog 17 #[.agg #[.int .i64 N, .slice A bs.length c], .slice A2 y.length c2] w fun e w' => e = .returned (.tuple #[.int .i64 (Ln.keptF N bs y).1, .bool (Ln.keptF N bs y).2.1, .int .i64 (Ln.keptF N bs y).2.2]) ∧ Below w.heap.size w w' := by
  have hB0 : Below w.heap.size w (w.alloc (.cells #[.int .i64 N, .slice A bs.length c] 24)) := (Below.refl _ _).alloc (Nat.le_refl _) _
  have k0 := Bk.new w 24 #[.int .i64 N, .slice A bs.length c]
  have hR1 := (hR.below hB0 (Nat.le_refl _)).more hB0.size
  by_cases hch : Ln.check N bs = 0
  · obtain ⟨hok, hN⟩ := Ln.ok_of_check hch
    obtain ⟨M, hM⟩ : ∃ M, N.toNat = M := ⟨_, rfl⟩
    rw [hM] at hok hN
    clear hM
    subst hN
    have HC := Lib.hid hch
    clear hch
    rcases hv : Ln.areV M y with _ | _
    · have hres : Ln.keptF M bs y = (0, false, 1) := by rw [Ln.keptF, if_pos HC.out, if_neg (by rw [hv]; simp)]
      rw [hres]
      have HV := Lib.hid hv
      clear hv hres
      go_enter Try.func17, Try.ntmps17
      go_wp2_with fail
      refine (rcheck_any M A c bs _ hR1 hc).mono ?_
      rw [HC.out]
      rintro e w1 ⟨rfl, hb1⟩
      have k1 := k0.below hb1 (by simp)
      have c0 := k1.cell 0
      have c1 := k1.cell 1
      simp only [List.getElem?_toArray, List.getElem?_cons_zero, List.getElem?_cons_succ] at c0 c1
      have hB1 := hB0.trans (hb1.mono (by simp))
      have hY1 := (hY.below hB1 (Nat.le_refl _)).more hB1.size
      go_wp2_with fail
      refine (rvalues_any M A c bs A2 c2 y _ hY1 hyl).mono ?_
      rw [HV.out]
      rintro e w2 ⟨rfl, hb2⟩
      go_wp2_with fail
      go_ret3
      exact ⟨rfl, hB1.trans (hb2.mono hB1.size)⟩
    · have HV := Lib.hid hv
      rcases hbk : Ln.brk bs y with _ | i
      all_goals
        have HBK := Lib.hid hbk
      · have hres : Ln.keptF M bs y = (0, true, 0) := by rw [Ln.keptF, if_pos HC.out, if_pos hv, hbk]
        rw [hres]
        clear hv hres hbk
        go_enter Try.func17, Try.ntmps17
        go_wp2_with fail
        refine (rcheck_any M A c bs _ hR1 hc).mono ?_
        rw [HC.out]
        rintro e w1 ⟨rfl, hb1⟩
        have k1 := k0.below hb1 (by simp)
        have c0 := k1.cell 0
        have c1 := k1.cell 1
        simp only [List.getElem?_toArray, List.getElem?_cons_zero, List.getElem?_cons_succ] at c0 c1
        have hB1 := hB0.trans (hb1.mono (by simp))
        have hY1 := (hY.below hB1 (Nat.le_refl _)).more hB1.size
        go_wp2_with fail
        refine (rvalues_any M A c bs A2 c2 y _ hY1 hyl).mono ?_
        rw [HV.out]
        rintro e w2 ⟨rfl, hb2⟩
        have k2 := k1.below hb2 k1.lt
        have d0 := k2.cell 0
        have d1 := k2.cell 1
        simp only [List.getElem?_toArray, List.getElem?_cons_zero, List.getElem?_cons_succ] at d0 d1
        have hB2 := hB1.trans (hb2.mono hB1.size)
        have hY2 := (hY.below hB2 (Nat.le_refl _)).more hB2.size
        have hR2 := (hR.below hB2 (Nat.le_refl _)).more hB2.size
        go_wp2_with fail
        refine (rbroken_any hok A c A2 c2 y _ hR2 hY2 HV.out).mono ?_
        rw [HBK.out]
        unfold brkV
        rintro e w3 ⟨rfl, hb3⟩
        go_wp2_with fail
        go_ret3
        exact ⟨rfl, hB2.trans (hb3.mono hB2.size)⟩
      · have hres : Ln.keptF M bs y = ((i : Int), false, 0) := by rw [Ln.keptF, if_pos HC.out, if_pos hv, hbk]
        rw [hres]
        clear hv hres hbk
        have hi0 : (0 : Int) ≤ (i : Int) := Int.natCast_nonneg _
        go_enter Try.func17, Try.ntmps17
        go_wp2_with fail
        refine (rcheck_any M A c bs _ hR1 hc).mono ?_
        rw [HC.out]
        rintro e w1 ⟨rfl, hb1⟩
        have k1 := k0.below hb1 (by simp)
        have c0 := k1.cell 0
        have c1 := k1.cell 1
        simp only [List.getElem?_toArray, List.getElem?_cons_zero, List.getElem?_cons_succ] at c0 c1
        have hB1 := hB0.trans (hb1.mono (by simp))
        have hY1 := (hY.below hB1 (Nat.le_refl _)).more hB1.size
        go_wp2_with fail
        refine (rvalues_any M A c bs A2 c2 y _ hY1 hyl).mono ?_
        rw [HV.out]
        rintro e w2 ⟨rfl, hb2⟩
        have k2 := k1.below hb2 k1.lt
        have d0 := k2.cell 0
        have d1 := k2.cell 1
        simp only [List.getElem?_toArray, List.getElem?_cons_zero, List.getElem?_cons_succ] at d0 d1
        have hB2 := hB1.trans (hb2.mono hB1.size)
        have hY2 := (hY.below hB2 (Nat.le_refl _)).more hB2.size
        have hR2 := (hR.below hB2 (Nat.le_refl _)).more hB2.size
        go_wp2_with fail
        refine (rbroken_any hok A c A2 c2 y _ hR2 hY2 HV.out).mono ?_
        rw [HBK.out]
        unfold brkV
        rintro e w3 ⟨rfl, hb3⟩
        go_wp2_with fail
        go_ret3
        exact ⟨rfl, hB2.trans (hb3.mono hB2.size)⟩
  · have hne : (Ln.check N bs != 0) = true := by simp [hch]
    have hres : Ln.keptF N bs y = (0, false, Ln.check N bs) := by rw [Ln.keptF, if_neg hch]
    rw [hres]
    clear hch hres
    go_enter Try.func17, Try.ntmps17
    go_wp2_with fail
    refine (rcheck_any N A c bs _ hR1 hc).mono ?_
    rintro e w1 ⟨rfl, hb1⟩
    go_wp2_with fail
    go_ret3
    exact ⟨rfl, hB0.trans (hb1.mono (by simp))⟩

end Go.Proofs.Ytnmiecnpiadcnaa
