/-
  CourseLengths: the law's walk.
-/
import Derived.Test.YtncdeogpmodoaabGreatDoorLaw
import Derived.Test.YtncdeogpmodoaabGreatDoorRlk
set_option linter.unusedVariables false
set_option linter.unusedSimpArgs false
namespace Go.Proofs.YtncdeogpmodoaabGreatDoor
open Go.RowKit
set_option maxRecDepth 100000

set_option maxHeartbeats 8000000 in
theorem courseLengths_any (n : Int) (s : Cs.Bs) (hs64 : s.length ≤ 9223372036854775807) (w : World) (hE : Env w) :
    Calls Tryz.prog 6 #[.int .i64 n, sv s] w fun e w' => e = .returned (.bool true) ∧ Below w.heap.size w w' := by
  have M0 := Lib.hid (show Mea w w from ⟨Below.refl _ _, hE⟩)
  clear hE
  by_cases hl : 100 < s.length
  · have d0 : decide (100 < (s.length : Int)) = true := decide_eq_true (by omega)
    rw [sv_def]
    clear hl
    go_enter Tryz.func6, Tryz.ntmps6
    go_wp2_with fail
    refine (measured_any _ M0.out.e).mono ?_
    rintro e w1 ⟨rfl, hb⟩
    have M1 := Lib.hid (M0.out.next hb)
    clear hb
    go_wp2_with fail
    go_ret
    exact ⟨rfl, M1.out.b⟩
  · have d0 : decide (100 < (s.length : Int)) = false := decide_eq_false (by omega)
    have hs : s.length ≤ 1000000 := by omega
    have b1 := fun W h => Links_any s hs W h
    have b2 := fun W => rLinks_any s hs W
    have b3 := fun W h => Area_any s hs W h
    have b4 := fun W => rArea_any s hs W
    have b5 := fun W h => Length_any n W h
    have b6 := fun W => rLength_any n W
    have b7 := fun W h => Acres_any n W h
    have b8 := fun W => rAcres_any n W
    obtain ⟨⟨a, e⟩, hr1⟩ : ∃ r, Cs.lnkF s = r := ⟨_, rfl⟩
    obtain ⟨⟨c, g⟩, hr2⟩ : ∃ r, Cs.areF s = r := ⟨_, rfl⟩
    obtain ⟨T, hT⟩ : ∃ r, Cs.lenF n = r := ⟨_, rfl⟩
    obtain ⟨U, hU⟩ : ∃ r, Cs.acrF n = r := ⟨_, rfl⟩
    simp only [hr1, hr2, hT, hU, sv_def] at b1 b2 b3 b4 b5 b6 b7 b8 ⊢
    have B1 := Lib.hid b1
    have B2 := Lib.hid b2
    have B3 := Lib.hid b3
    have B4 := Lib.hid b4
    have B5 := Lib.hid b5
    have B6 := Lib.hid b6
    have B7 := Lib.hid b7
    have B8 := Lib.hid b8
    clear b1 b2 b3 b4 b5 b6 b7 b8 hr1 hr2 hT hU hl hs
    go_enter Tryz.func6, Tryz.ntmps6
    go_wp2_with fail
    refine (B1.out _ M0.out.e).mono ?_
    rintro e w1 ⟨rfl, hb⟩
    have M1 := Lib.hid (M0.out.next hb)
    clear hb
    go_wp2_with fail
    refine (B2.out _).mono ?_
    rintro e w2 ⟨rfl, hb⟩
    have M2 := Lib.hid (M1.out.next hb)
    clear hb
    go_wp2_with fail
    refine (B3.out _ M2.out.e).mono ?_
    rintro e w3 ⟨rfl, hb⟩
    have M3 := Lib.hid (M2.out.next hb)
    clear hb
    go_wp2_with fail
    refine (B4.out _).mono ?_
    rintro e w4 ⟨rfl, hb⟩
    have M4 := Lib.hid (M3.out.next hb)
    clear hb
    go_wp2_with fail
    refine (measured_any _ M4.out.e).mono ?_
    rintro e w5 ⟨rfl, hb⟩
    have M5 := Lib.hid (M4.out.next hb)
    clear hb
    go_wp2_with fail
    refine (B5.out _ M5.out.e).mono ?_
    rintro e w6 ⟨rfl, hb⟩
    have M6 := Lib.hid (M5.out.next hb)
    clear hb
    go_wp2_with fail
    refine (B6.out _).mono ?_
    rintro e w7 ⟨rfl, hb⟩
    have M7 := Lib.hid (M6.out.next hb)
    clear hb
    go_wp2_with fail
    refine (B7.out _ M7.out.e).mono ?_
    rintro e w8 ⟨rfl, hb⟩
    have M8 := Lib.hid (M7.out.next hb)
    clear hb
    go_wp2_with fail
    refine (B8.out _).mono ?_
    rintro e w9 ⟨rfl, hb⟩
    have M9 := Lib.hid (M8.out.next hb)
    clear hb
    go_wp2_with fail
    go_ret
    exact ⟨rfl, M9.out.b⟩

end Go.Proofs.YtncdeogpmodoaabGreatDoor
