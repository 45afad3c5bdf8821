/-
  The reference's Bearing.
-/
import Derived.Test.YtncdeogpmodoaabGreatDoorRqd
set_option linter.unusedVariables false
set_option linter.unusedSimpArgs false
namespace Go.Proofs.YtncdeogpmodoaabGreatDoor
open Go.RowKit
set_option maxRecDepth 100000

theorem rBearing_any (s : Cs.Bs) (w : World) :
    Calls Tryz.prog 25 #[sv s] w fun e w' => e = .returned (.tuple #[.int .i64 (Cs.berF s).1, .int .i64 (Cs.berF s).2]) ∧ Below w.heap.size w w' := by
  have hr : Cs.rbearF s 360 0 = Cs.berF s := Cs.rber_eq s
  obtain ⟨r, hrr⟩ : ∃ r, Cs.berF s = r := ⟨_, rfl⟩
  rw [hrr] at hr ⊢
  have HR := Lib.hid hr
  rw [sv_def]
  clear hr hrr
  go_enter Tryz.func25, Tryz.ntmps25
  go_wp2_with fail
  go_loopw [4] (fun I wr => ∃ k : Nat, k ≤ 360 ∧ I = .int .i64 k ∧ Cs.rbearF s (360 - k) k = r ∧ Below w.heap.size w wr) (fun I _ => 360 - (intOf I).toNat)
  case atStart => exact ⟨0, by omega, rfl, HR.out, Below.refl _ _⟩
  case round =>
    clear HR
    obtain ⟨k, hk, rfl, hF, hB⟩ := hrel
    by_cases hlt : k < 360
    · have hgs : Cs.rbearF s (360 - k) k = if Cs.quadF (k : Int) = s then ((k : Int), 0) else Cs.rbearF s (360 - (k + 1)) ((k + 1 : Nat) : Int) := by
        rw [show 360 - k = (360 - (k + 1)) + 1 by omega, Cs.rbearF, show ((k + 1 : Nat) : Int) = (k : Int) + 1 by omega]
      rw [hgs] at hF
      have hk5 : decide ((k : Int) < 360) = true := decide_eq_true (by omega)
      have b := fun W => rQuadrant_any (k : Int) W
      obtain ⟨T, hT⟩ : ∃ T, Cs.quadF (k : Int) = T := ⟨_, rfl⟩
      rw [hT] at b hF
      have B := Lib.hid b
      have HB := Lib.hid hB
      clear hgs hT b hB
      by_cases hs : T = s
      · rw [if_pos hs] at hF
        have HF := Lib.hid hF
        subst hs
        clear hF
        go_wp2_with fail
        refine (B.out _).mono ?_
        rintro e w1 ⟨rfl, hb⟩
        have HB1 := Lib.hid (HB.out.trans (hb.mono HB.out.size))
        clear hb
        rw [sv_def]
        go_wp2_with fail
        go_ret2
        have h := HF.out
        subst h
        exact ⟨rfl, HB1.out⟩
      · rw [if_neg hs] at hF
        have hne : (T == s) = false := by simp [hs]
        have HF := Lib.hid hF
        clear hF hs
        go_wp2_with fail
        refine (B.out _).mono ?_
        rintro e w1 ⟨rfl, hb⟩
        have HB1 := Lib.hid (HB.out.trans (hb.mono HB.out.size))
        clear hb
        rw [sv_def]
        go_wp2_with fail
        go_roundw
        case rel => exact ⟨k + 1, by omega, by go_num, HF.out, HB1.out⟩
        case measure => simp [intOf]; omega
    · obtain rfl : k = 360 := by omega
      have HF := Lib.hid (show ((0 : Int), (4 : Int)) = r from hF)
      clear hF
      go_wp2_with fail
      go_ret2
      have h := HF.out
      subst h
      exact ⟨rfl, hB⟩

end Go.Proofs.YtncdeogpmodoaabGreatDoor
