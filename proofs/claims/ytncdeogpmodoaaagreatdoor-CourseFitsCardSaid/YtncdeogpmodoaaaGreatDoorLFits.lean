/-
  CourseFits: the law's walk.
-/
import Derived.Test.YtncdeogpmodoaaaGreatDoorRcom
import Derived.Test.YtncdeogpmodoaaaGreatDoorLaw
set_option linter.unusedVariables false
set_option linter.unusedSimpArgs false
namespace Go.Proofs.YtncdeogpmodoaaaGreatDoor
open Go.RowKit
set_option maxRecDepth 100000

set_option maxHeartbeats 8000000 in
theorem courseFits_any (A : Option Addr) (c : Nat) (vs : List (Int × Int)) (co : Cs.Co) (dx dy : Int) (w : World) (hE : Env w) (hR : Rd w w.heap.size 2 A vs.length (vcells vs)) (hn : vs.length ≤ 9223372036854775807) :
    Calls Tryz.prog 6 #[.slice A vs.length c, cval co, .int .i64 dx, .int .i64 dy] w fun e w' => e = .returned (.bool true) ∧ Below w.heap.size w w' := by
  have s0 := Lib.hid (Lw.new (c := co) hE hR)
  clear hE hR
  by_cases hf : vs.length ≤ 60
  · have hd : decide ((vs.length : Int) ≤ 60) = true := decide_eq_true (by omega)
    have hfew := few_any A c vs.length hn
    rw [hd] at hfew
    have b1 := fun W hs h => Misfit_any A c vs co dx dy W hs h (by omega)
    have b2 := fun W h => rMisfit_any A c vs co dx dy W h (by omega)
    have b3 := fun W hs h => Fits_any A c vs co dx dy W hs h (by omega)
    have hfi : (Cs.fitsF vs co dx dy) = (decide ((Cs.misfitF vs co dx dy).2 = 0) && decide ((Cs.misfitF vs co dx dy).1 = 0), (Cs.misfitF vs co dx dy).2) := rfl
    rw [hfi] at b3
    obtain ⟨m, hm⟩ : ∃ m, (Cs.misfitF vs co dx dy).1 = m := ⟨_, rfl⟩
    obtain ⟨e, he⟩ : ∃ e, (Cs.misfitF vs co dx dy).2 = e := ⟨_, rfl⟩
    simp only [hm, he] at b1 b2 b3
    obtain ⟨z, hz⟩ : ∃ z : Bool, (decide (e = 0) && decide (m = 0)) = z := ⟨_, rfl⟩
    rw [hz] at b3
    have HZ := Lib.hid hz
    clear hz hfi hm he
    simp only [cval_def] at b1 b2 b3 ⊢
    have FE := Lib.hid hfew
    have B1 := Lib.hid b1
    have B2 := Lib.hid b2
    have B3 := Lib.hid b3
    clear b1 b2 b3 hfew hd hf hn
    go_enter Tryz.func6, Tryz.ntmps6
    go_wp2_with fail
    refine (FE.out _).mono ?_
    rintro e w' ⟨rfl, rfl⟩
    obtain ⟨c0, c1, c2, c3, c4, c5, cl⟩ := s0.out.cells
    go_wp2_with fail
    refine (B1.out _ s0.out.e.sn s0.out.rd).mono ?_
    rintro e w1 ⟨rfl, hb⟩
    have s1 := Lib.hid (s0.out.next hb)
    clear hb c0 c1 c2 c3 c4 c5 cl
    obtain ⟨c0, c1, c2, c3, c4, c5, cl⟩ := s1.out.cells
    go_wp2_with fail
    refine (B2.out _ s1.out.rd).mono ?_
    rintro e w2 ⟨rfl, hb⟩
    have s2 := Lib.hid (s1.out.next hb)
    clear hb c0 c1 c2 c3 c4 c5 cl
    obtain ⟨c0, c1, c2, c3, c4, c5, cl⟩ := s2.out.cells
    go_wp2_with fail
    refine (B3.out _ s2.out.e.sn s2.out.rd).mono ?_
    rintro e w3 ⟨rfl, hb⟩
    have s3 := Lib.hid (s2.out.next hb)
    clear hb c0 c1 c2 c3 c4 c5 cl
    go_wp2_with fail
    refine (measured_any _ s3.out.e).mono ?_
    rintro e w4 ⟨rfl, hb⟩
    have s4 := Lib.hid (s3.out.next hb)
    clear hb
    go_wp2_with fail
    all_goals go_ret
    all_goals refine ⟨?_, s4.out.b⟩
    all_goals have hz := HZ.out
    all_goals clear HZ FE B1 B2 B3 s0 s1 s2 s3 s4
    all_goals refine ret_bool ?_
    all_goals (revert hz; cases z <;> simp_all)
  · have hd : decide ((vs.length : Int) ≤ 60) = false := decide_eq_false (by omega)
    have hfew := few_any A c vs.length hn
    rw [hd] at hfew
    simp only [cval_def]
    have FE := Lib.hid hfew
    clear hfew hd hf hn
    go_enter Tryz.func6, Tryz.ntmps6
    go_wp2_with fail
    refine (FE.out _).mono ?_
    rintro e w' ⟨rfl, rfl⟩
    go_wp2_with fail
    refine (measured_any _ s0.out.e).mono ?_
    rintro e w1 ⟨rfl, hb⟩
    have s1 := Lib.hid (s0.out.next hb)
    clear hb
    go_wp2_with fail
    go_ret
    exact ⟨rfl, s1.out.b⟩

end Go.Proofs.YtncdeogpmodoaaaGreatDoor
