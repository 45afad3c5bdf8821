/-
  What the claims of layer deed need of the texts Nar.
-/
import Derived.Test.YtcbeefbefapicaaGreatDoorBn21
set_option linter.unusedVariables false
set_option linter.unusedSimpArgs false
namespace Go.Proofs.YtcbeefbefapicaaGreatDoor
open Go.RowKit
set_option maxRecDepth 100000
set_option maxHeartbeats 8000000 in
theorem Narrower_any (c1 c2 : Cs.Co) (w : World) :
  Calls Tryz.prog 20 #[cval c1, cval c2] w fun e w' => e = .returned (.bool (Cs.narF c1 c2)) ∧ Below w.heap.size w w' := by
 have hc1 := fun w => checkCourse_any c1 w
 have hc2 := fun w => checkCourse_any c2 w
 obtain ⟨r, hr⟩ : ∃ r, Cs.narF c1 c2 = r := ⟨_, rfl⟩
 rw [hr]
 unfold Cs.narF at hr
 have hk1 := Cs.courseOk_iff c1
 have hk2 := Cs.courseOk_iff c2
 obtain ⟨b1, n1, l1, y1, a1, s1⟩ := c1
 obtain ⟨b2, n2, l2, y2, a2, s2⟩ := c2
 rw [cval_def] at hc1 hc2
 rw [cval_def, cval_def]
 dsimp only at *
 have hB0 := ((Below.refl w.heap.size w).alloc (Nat.le_refl _) (.cells #[.int .i64 b1, .int .i64 n1, .int .i64 l1, .int .i64 y1, .int .i64 a1, .int .i64 s1] 40)).alloc (by simp) (.cells #[.int .i64 b2, .int .i64 n2, .int .i64 l2, .int .i64 y2, .int .i64 a2, .int .i64 s2] 40)
 have kA := (Bk.new w 40 #[.int .i64 b1, .int .i64 n1, .int .i64 l1, .int .i64 y1, .int .i64 a1, .int .i64 s1]).alloc (.cells #[.int .i64 b2, .int .i64 n2, .int .i64 l2, .int .i64 y2, .int .i64 a2, .int .i64 s2] 40)
 have kB := Bk.new (w.alloc (.cells #[.int .i64 b1, .int .i64 n1, .int .i64 l1, .int .i64 y1, .int .i64 a1, .int .i64 s1] 40)) 40 #[.int .i64 b2, .int .i64 n2, .int .i64 l2, .int .i64 y2, .int .i64 a2, .int .i64 s2]
 rw [World.size_alloc] at kB
 have HB0 := Lib.hid hB0
 have KA := Lib.hid kA
 have KB := Lib.hid kB
 clear hB0 kA kB
 rcases hok1 : Cs.courseOk ⟨b1, n1, l1, y1, a1, s1⟩ with _ | _
 ·rw [hok1] at hr
  rw [Cs.courseE_not hok1] at hc1
  have HC1 := Lib.hid hc1
  have HR := Lib.hid (show false = r by simpa using hr)
  clear hc1 hc2 hr hok1 hk1 hk2
  go_enter Tryz.func20, Tryz.ntmps20
  go_wp2_with fail
  refine (HC1.out _).mono ?_
  rintro e w1 ⟨rfl, hb1⟩
  have HB1 := Lib.hid (HB0.out.trans (hb1.mono HB0.out.size))
  clear hb1
  go_wp2_with fail
  go_ret
  have h := HR.out
  subst h
  exact ⟨rfl, HB1.out⟩
 ·rw [hok1] at hr
  rw [Cs.courseE_of hok1] at hc1
  have HC1 := Lib.hid hc1
  rcases hok2 : Cs.courseOk ⟨b2, n2, l2, y2, a2, s2⟩ with _ | _
  ·rw [hok2] at hr
   rw [Cs.courseE_not hok2] at hc2
   have HC2 := Lib.hid hc2
   have HR := Lib.hid (show false = r by simpa using hr)
   clear hc1 hc2 hr hok1 hok2 hk1 hk2
   go_enter Tryz.func20, Tryz.ntmps20
   go_wp2_with fail
   refine (HC1.out _).mono ?_
   rintro e w1 ⟨rfl, hb1⟩
   have hB1 := HB0.out.trans (hb1.mono HB0.out.size)
   have k1 := KA.out.below hb1 (by simp; omega)
   have k2 := KB.out.below hb1 (by simp)
   have d0 := (k2.cell 0).trans rfl
   have d1 := (k2.cell 1).trans rfl
   have d2 := (k2.cell 2).trans rfl
   have d3 := (k2.cell 3).trans rfl
   have d4 := (k2.cell 4).trans rfl
   have d5 := (k2.cell 5).trans rfl
   have lk := k2.lt
   have HB1 := Lib.hid hB1
   clear hb1 hB1 k1 k2
   go_wp2_with fail
   refine (HC2.out _).mono ?_
   rintro e w2 ⟨rfl, hb2⟩
   have HB2 := Lib.hid (HB1.out.trans (hb2.mono HB1.out.size))
   clear hb2
   go_wp2_with fail
   go_ret
   have h := HR.out
   subst h
   exact ⟨rfl, HB2.out⟩
  ·rw [hok2] at hr
   rw [Cs.courseE_of hok2] at hc2
   have HC2 := Lib.hid hc2
   obtain ⟨g1, g2, g3, g4, ⟨g5, g6⟩, ⟨g7, g8⟩⟩ := hk1.1 hok1
   obtain ⟨i1, i2, i3, i4, ⟨i5, i6⟩, ⟨i7, i8⟩⟩ := hk2.1 hok2
   clear hc1 hc2 hk1 hk2 hok1 hok2 g1 g2 g3 g4 i1 i2 i3 i4
   simp only [Bool.true_and] at hr
   have hcase : b1 ≠ b2 ∨ (b1 = b2 ∧ l1 ≠ l2) ∨ (b1 = b2 ∧ l1 = l2 ∧ y1 ≠ y2) ∨ (b1 = b2 ∧ l1 = l2 ∧ y1 = y2 ∧ n2 < n1) ∨ (b1 = b2 ∧ l1 = l2 ∧ y1 = y2 ∧ n1 ≤ n2) := by omega
   rcases hcase with h1 | ⟨rfl, h1⟩ | ⟨rfl, rfl, h1⟩ | ⟨rfl, rfl, rfl, h1⟩ | ⟨rfl, rfl, rfl, h1⟩
   ·have HR := Lib.hid (show false = r by rw [← hr]; simp [h1])
    have hne : (b1 != b2) = true := by simp [h1]
    clear hr h1
    go_enter Tryz.func20, Tryz.ntmps20
    go_wp2_with fail
    refine (HC1.out _).mono ?_
    rintro e w1 ⟨rfl, hb1⟩
    have hB1 := HB0.out.trans (hb1.mono HB0.out.size)
    have k1 := KA.out.below hb1 (by simp; omega)
    have k2 := KB.out.below hb1 (by simp)
    have p0 := (k1.cell 0).trans rfl
    have p1 := (k1.cell 1).trans rfl
    have p2 := (k1.cell 2).trans rfl
    have p3 := (k1.cell 3).trans rfl
    have p4 := (k1.cell 4).trans rfl
    have p5 := (k1.cell 5).trans rfl
    have d0 := (k2.cell 0).trans rfl
    have d1 := (k2.cell 1).trans rfl
    have d2 := (k2.cell 2).trans rfl
    have d3 := (k2.cell 3).trans rfl
    have d4 := (k2.cell 4).trans rfl
    have d5 := (k2.cell 5).trans rfl
    have lk1 := k1.lt
    have lk := k2.lt
    have K1 := Lib.hid k1
    have K2 := Lib.hid k2
    have HB1 := Lib.hid hB1
    clear hb1 hB1 k1 k2
    go_wp2_with fail
    refine (HC2.out _).mono ?_
    rintro e w2 ⟨rfl, hb2⟩
    have HB2 := Lib.hid (HB1.out.trans (hb2.mono HB1.out.size))
    have k3 := K1.out.below hb2 K1.out.lt
    have k4 := K2.out.below hb2 K2.out.lt
    clear hb2 p0 p1 p2 p3 p4 p5 d0 d1 d2 d3 d4 d5 lk lk1
    have p0 := (k3.cell 0).trans rfl
    have p1 := (k3.cell 1).trans rfl
    have p2 := (k3.cell 2).trans rfl
    have p3 := (k3.cell 3).trans rfl
    have p4 := (k3.cell 4).trans rfl
    have p5 := (k3.cell 5).trans rfl
    have d0 := (k4.cell 0).trans rfl
    have d1 := (k4.cell 1).trans rfl
    have d2 := (k4.cell 2).trans rfl
    have d3 := (k4.cell 3).trans rfl
    have d4 := (k4.cell 4).trans rfl
    have d5 := (k4.cell 5).trans rfl
    have lk1 := k3.lt
    have lk := k4.lt
    clear k3 k4
    go_wp2_with fail
    go_ret
    have h := HR.out
    subst h
    exact ⟨rfl, HB2.out⟩
   ·have HR := Lib.hid (show false = r by rw [← hr]; simp [h1])
    have hne : (l1 != l2) = true := by simp [h1]
    clear hr h1
    go_enter Tryz.func20, Tryz.ntmps20
    go_wp2_with fail
    refine (HC1.out _).mono ?_
    rintro e w1 ⟨rfl, hb1⟩
    have hB1 := HB0.out.trans (hb1.mono HB0.out.size)
    have k1 := KA.out.below hb1 (by simp; omega)
    have k2 := KB.out.below hb1 (by simp)
    have p0 := (k1.cell 0).trans rfl
    have p1 := (k1.cell 1).trans rfl
    have p2 := (k1.cell 2).trans rfl
    have p3 := (k1.cell 3).trans rfl
    have p4 := (k1.cell 4).trans rfl
    have p5 := (k1.cell 5).trans rfl
    have d0 := (k2.cell 0).trans rfl
    have d1 := (k2.cell 1).trans rfl
    have d2 := (k2.cell 2).trans rfl
    have d3 := (k2.cell 3).trans rfl
    have d4 := (k2.cell 4).trans rfl
    have d5 := (k2.cell 5).trans rfl
    have lk1 := k1.lt
    have lk := k2.lt
    have K1 := Lib.hid k1
    have K2 := Lib.hid k2
    have HB1 := Lib.hid hB1
    clear hb1 hB1 k1 k2
    go_wp2_with fail
    refine (HC2.out _).mono ?_
    rintro e w2 ⟨rfl, hb2⟩
    have HB2 := Lib.hid (HB1.out.trans (hb2.mono HB1.out.size))
    have k3 := K1.out.below hb2 K1.out.lt
    have k4 := K2.out.below hb2 K2.out.lt
    clear hb2 p0 p1 p2 p3 p4 p5 d0 d1 d2 d3 d4 d5 lk lk1
    have p0 := (k3.cell 0).trans rfl
    have p1 := (k3.cell 1).trans rfl
    have p2 := (k3.cell 2).trans rfl
    have p3 := (k3.cell 3).trans rfl
    have p4 := (k3.cell 4).trans rfl
    have p5 := (k3.cell 5).trans rfl
    have d0 := (k4.cell 0).trans rfl
    have d1 := (k4.cell 1).trans rfl
    have d2 := (k4.cell 2).trans rfl
    have d3 := (k4.cell 3).trans rfl
    have d4 := (k4.cell 4).trans rfl
    have d5 := (k4.cell 5).trans rfl
    have lk1 := k3.lt
    have lk := k4.lt
    clear k3 k4
    go_wp2_with fail
    go_ret
    have h := HR.out
    subst h
    exact ⟨rfl, HB2.out⟩
   ·have HR := Lib.hid (show false = r by rw [← hr]; simp [h1])
    have hne : (y1 != y2) = true := by simp [h1]
    clear hr h1
    go_enter Tryz.func20, Tryz.ntmps20
    go_wp2_with fail
    refine (HC1.out _).mono ?_
    rintro e w1 ⟨rfl, hb1⟩
    have hB1 := HB0.out.trans (hb1.mono HB0.out.size)
    have k1 := KA.out.below hb1 (by simp; omega)
    have k2 := KB.out.below hb1 (by simp)
    have p0 := (k1.cell 0).trans rfl
    have p1 := (k1.cell 1).trans rfl
    have p2 := (k1.cell 2).trans rfl
    have p3 := (k1.cell 3).trans rfl
    have p4 := (k1.cell 4).trans rfl
    have p5 := (k1.cell 5).trans rfl
    have d0 := (k2.cell 0).trans rfl
    have d1 := (k2.cell 1).trans rfl
    have d2 := (k2.cell 2).trans rfl
    have d3 := (k2.cell 3).trans rfl
    have d4 := (k2.cell 4).trans rfl
    have d5 := (k2.cell 5).trans rfl
    have lk1 := k1.lt
    have lk := k2.lt
    have K1 := Lib.hid k1
    have K2 := Lib.hid k2
    have HB1 := Lib.hid hB1
    clear hb1 hB1 k1 k2
    go_wp2_with fail
    refine (HC2.out _).mono ?_
    rintro e w2 ⟨rfl, hb2⟩
    have HB2 := Lib.hid (HB1.out.trans (hb2.mono HB1.out.size))
    have k3 := K1.out.below hb2 K1.out.lt
    have k4 := K2.out.below hb2 K2.out.lt
    clear hb2 p0 p1 p2 p3 p4 p5 d0 d1 d2 d3 d4 d5 lk lk1
    have p0 := (k3.cell 0).trans rfl
    have p1 := (k3.cell 1).trans rfl
    have p2 := (k3.cell 2).trans rfl
    have p3 := (k3.cell 3).trans rfl
    have p4 := (k3.cell 4).trans rfl
    have p5 := (k3.cell 5).trans rfl
    have d0 := (k4.cell 0).trans rfl
    have d1 := (k4.cell 1).trans rfl
    have d2 := (k4.cell 2).trans rfl
    have d3 := (k4.cell 3).trans rfl
    have d4 := (k4.cell 4).trans rfl
    have d5 := (k4.cell 5).trans rfl
    have lk1 := k3.lt
    have lk := k4.lt
    clear k3 k4
    go_wp2_with fail
    go_ret
    have h := HR.out
    subst h
    exact ⟨rfl, HB2.out⟩
   ·have HR := Lib.hid (show false = r by rw [← hr]; simp; intro h; omega)
    clear hr
    go_enter Tryz.func20, Tryz.ntmps20
    go_wp2_with fail
    refine (HC1.out _).mono ?_
    rintro e w1 ⟨rfl, hb1⟩
    have hB1 := HB0.out.trans (hb1.mono HB0.out.size)
    have k1 := KA.out.below hb1 (by simp; omega)
    have k2 := KB.out.below hb1 (by simp)
    have p0 := (k1.cell 0).trans rfl
    have p1 := (k1.cell 1).trans rfl
    have p2 := (k1.cell 2).trans rfl
    have p3 := (k1.cell 3).trans rfl
    have p4 := (k1.cell 4).trans rfl
    have p5 := (k1.cell 5).trans rfl
    have d0 := (k2.cell 0).trans rfl
    have d1 := (k2.cell 1).trans rfl
    have d2 := (k2.cell 2).trans rfl
    have d3 := (k2.cell 3).trans rfl
    have d4 := (k2.cell 4).trans rfl
    have d5 := (k2.cell 5).trans rfl
    have lk1 := k1.lt
    have lk := k2.lt
    have K1 := Lib.hid k1
    have K2 := Lib.hid k2
    have HB1 := Lib.hid hB1
    clear hb1 hB1 k1 k2
    go_wp2_with fail
    refine (HC2.out _).mono ?_
    rintro e w2 ⟨rfl, hb2⟩
    have HB2 := Lib.hid (HB1.out.trans (hb2.mono HB1.out.size))
    have k3 := K1.out.below hb2 K1.out.lt
    have k4 := K2.out.below hb2 K2.out.lt
    clear hb2 p0 p1 p2 p3 p4 p5 d0 d1 d2 d3 d4 d5 lk lk1
    have p0 := (k3.cell 0).trans rfl
    have p1 := (k3.cell 1).trans rfl
    have p2 := (k3.cell 2).trans rfl
    have p3 := (k3.cell 3).trans rfl
    have p4 := (k3.cell 4).trans rfl
    have p5 := (k3.cell 5).trans rfl
    have d0 := (k4.cell 0).trans rfl
    have d1 := (k4.cell 1).trans rfl
    have d2 := (k4.cell 2).trans rfl
    have d3 := (k4.cell 3).trans rfl
    have d4 := (k4.cell 4).trans rfl
    have d5 := (k4.cell 5).trans rfl
    have lk1 := k3.lt
    have lk := k4.lt
    clear k3 k4
    go_wp2_with fail
    go_ret
    have h := HR.out
    subst h
    exact ⟨rfl, HB2.out⟩
   ·have HR := Lib.hid (show (decide (a2 - s2 ≤ a1 - s1) && decide (a1 + s1 ≤ a2 + s2)) = r by rw [← hr]; simp [h1])
    clear hr
    go_enter Tryz.func20, Tryz.ntmps20
    go_wp2_with fail
    refine (HC1.out _).mono ?_
    rintro e w1 ⟨rfl, hb1⟩
    have hB1 := HB0.out.trans (hb1.mono HB0.out.size)
    have k1 := KA.out.below hb1 (by simp; omega)
    have k2 := KB.out.below hb1 (by simp)
    have p0 := (k1.cell 0).trans rfl
    have p1 := (k1.cell 1).trans rfl
    have p2 := (k1.cell 2).trans rfl
    have p3 := (k1.cell 3).trans rfl
    have p4 := (k1.cell 4).trans rfl
    have p5 := (k1.cell 5).trans rfl
    have d0 := (k2.cell 0).trans rfl
    have d1 := (k2.cell 1).trans rfl
    have d2 := (k2.cell 2).trans rfl
    have d3 := (k2.cell 3).trans rfl
    have d4 := (k2.cell 4).trans rfl
    have d5 := (k2.cell 5).trans rfl
    have lk1 := k1.lt
    have lk := k2.lt
    have K1 := Lib.hid k1
    have K2 := Lib.hid k2
    have HB1 := Lib.hid hB1
    clear hb1 hB1 k1 k2
    go_wp2_with fail
    refine (HC2.out _).mono ?_
    rintro e w2 ⟨rfl, hb2⟩
    have HB2 := Lib.hid (HB1.out.trans (hb2.mono HB1.out.size))
    have k3 := K1.out.below hb2 K1.out.lt
    have k4 := K2.out.below hb2 K2.out.lt
    clear hb2 p0 p1 p2 p3 p4 p5 d0 d1 d2 d3 d4 d5 lk lk1
    have p0 := (k3.cell 0).trans rfl
    have p1 := (k3.cell 1).trans rfl
    have p2 := (k3.cell 2).trans rfl
    have p3 := (k3.cell 3).trans rfl
    have p4 := (k3.cell 4).trans rfl
    have p5 := (k3.cell 5).trans rfl
    have d0 := (k4.cell 0).trans rfl
    have d1 := (k4.cell 1).trans rfl
    have d2 := (k4.cell 2).trans rfl
    have d3 := (k4.cell 3).trans rfl
    have d4 := (k4.cell 4).trans rfl
    have d5 := (k4.cell 5).trans rfl
    have lk1 := k3.lt
    have lk := k4.lt
    clear k3 k4
    by_cases q1 : a2 - s2 ≤ a1 - s1
    ·have hd1 : decide (a2 - s2 ≤ a1 - s1) = true := decide_eq_true q1
     go_wp2_with fail
     go_region
     all_goals
      go_wp2_with fail
     all_goals
      go_ret
      have h := HR.out
      subst h
      exact ⟨ret_bool (by rw [hd1, Bool.true_and]), ((HB2.out.alloc HB2.out.size _).alloc (by simp; exact Nat.le_succ_of_le HB2.out.size) _).drew⟩
    ·have hd1 : decide (a2 - s2 ≤ a1 - s1) = false := decide_eq_false q1
     go_wp2_with fail
     go_region
     all_goals
      go_wp2_with fail
     all_goals
      go_ret
      have h := HR.out
      subst h
      exact ⟨ret_bool (by rw [hd1, Bool.false_and]), ((HB2.out.alloc HB2.out.size _).alloc (by simp; exact Nat.le_succ_of_le HB2.out.size) _).drew⟩
end Go.Proofs.YtcbeefbefapicaaGreatDoor
