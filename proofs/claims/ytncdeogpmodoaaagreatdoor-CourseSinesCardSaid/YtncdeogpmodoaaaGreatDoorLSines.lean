/-
  CourseSines: the law's walk.
-/
import Derived.Test.YtncdeogpmodoaaaGreatDoorLaw
set_option linter.unusedVariables false
set_option linter.unusedSimpArgs false
namespace Go.Proofs.YtncdeogpmodoaaaGreatDoor
open Go.RowKit
set_option maxRecDepth 100000

namespace Cs
theorem sin_all : ∀ k ∈ List.range 360, sin (-(k : Int)) = -(sin (k : Int)) ∧ cos (-(k : Int)) = cos (k : Int) ∧ sin (90 - (k : Int)) = cos (k : Int) := by decide +kernel
theorem sin_more (d : Int) : sin (-(norm d)) = -(sin (norm d)) ∧ cos (-(norm d)) = cos (norm d) ∧ sin (90 - norm d) = cos (norm d) := by
  have h := norm_range d
  have := sin_all (norm d).toNat (by simp; omega)
  rwa [show (((norm d).toNat : Nat) : Int) = norm d by omega] at this
end Cs

set_option maxHeartbeats 8000000 in
theorem courseSines_any (d : Int) (w : World) (hE : Env w) :
    Calls Tryz.prog 3 #[.int .i64 d] w fun e w' => e = .returned (.bool true) ∧ Below w.heap.size w w' := by
  have M0 := Lib.hid (show Mea w w from ⟨Below.refl _ _, hE⟩)
  have hr := Cs.norm_range d
  have hm := Cs.sin_more d
  have hs := Cs.sin_range (Cs.norm d)
  have N1 := Lib.hid (norm_any d)
  have N2 := Lib.hid (rnorm_any d)
  obtain ⟨n, hn⟩ : ∃ n, Cs.norm d = n := ⟨_, rfl⟩
  rw [hn] at hr hm hs N1 N2
  have hs1 := fun W h => sin_any d W h
  have hs2 := fun W => rsin_any d W
  have hc1 := fun W h => cos_any d W h
  have hc2 := fun W => rcos_any d W
  obtain ⟨x, hx⟩ : ∃ x, Cs.sin d = x := ⟨_, rfl⟩
  obtain ⟨y, hy⟩ : ∃ y, Cs.cos d = y := ⟨_, rfl⟩
  rw [hx] at hs1 hs2
  rw [hy] at hc1 hc2
  have S1 := Lib.hid hs1
  have S2 := Lib.hid hs2
  have C1 := Lib.hid hc1
  have C2 := Lib.hid hc2
  have hs3 := fun W h => sin_any n W h
  have hs4 := fun W h => sin_any (-n) W h
  have hs5 := fun W h => sin_any (90 - n) W h
  have hc3 := fun W h => cos_any n W h
  have hc4 := fun W h => cos_any (-n) W h
  rw [hm.1] at hs4
  rw [hm.2.1] at hc4
  rw [hm.2.2] at hs5
  obtain ⟨a, ha⟩ : ∃ a, Cs.sin n = a := ⟨_, rfl⟩
  obtain ⟨b, hb⟩ : ∃ b, Cs.cos n = b := ⟨_, rfl⟩
  rw [ha] at hs hs3 hs4
  rw [hb] at hc3 hc4 hs5
  have S3 := Lib.hid hs3
  have S4 := Lib.hid hs4
  have S5 := Lib.hid hs5
  have C3 := Lib.hid hc3
  have C4 := Lib.hid hc4
  obtain ⟨r1, r2⟩ := hr
  obtain ⟨q1, q2⟩ := hs
  clear hs1 hs2 hc1 hc2 hs3 hs4 hs5 hc3 hc4 hm hn hx hy ha hb hE
  go_enter Tryz.func3, Tryz.ntmps3
  go_wp2_with fail
  refine (N1.out _).mono ?_
  rintro e w' ⟨rfl, rfl⟩
  go_wp2_with fail
  refine (N2.out _).mono ?_
  rintro e w' ⟨rfl, rfl⟩
  go_wp2_with fail
  refine (S1.out _ M0.out.e.sn).mono ?_
  rintro e w' ⟨rfl, rfl⟩
  go_wp2_with fail
  refine (S2.out _).mono ?_
  rintro e w1 ⟨rfl, hb⟩
  have M1 := Lib.hid (M0.out.next hb)
  clear hb
  go_wp2_with fail
  refine (C1.out _ M1.out.e.sn).mono ?_
  rintro e w' ⟨rfl, rfl⟩
  go_wp2_with fail
  refine (C2.out _).mono ?_
  rintro e w2 ⟨rfl, hb⟩
  have M2 := Lib.hid (M1.out.next hb)
  clear hb
  go_wp2_with fail
  refine (N1.out _).mono ?_
  rintro e w' ⟨rfl, rfl⟩
  go_wp2_with fail
  refine (measured_any _ M2.out.e).mono ?_
  rintro e w3 ⟨rfl, hb⟩
  have M3 := Lib.hid (M2.out.next hb)
  clear hb
  go_wp2_with fail
  refine (S4.out _ M3.out.e.sn).mono ?_
  rintro e w' ⟨rfl, rfl⟩
  go_wp2_with fail
  refine (S3.out _ M3.out.e.sn).mono ?_
  rintro e w' ⟨rfl, rfl⟩
  go_wp2_with fail
  refine (C4.out _ M3.out.e.sn).mono ?_
  rintro e w' ⟨rfl, rfl⟩
  go_wp2_with fail
  refine (C3.out _ M3.out.e.sn).mono ?_
  rintro e w' ⟨rfl, rfl⟩
  go_wp2_with fail
  refine (S5.out _ M3.out.e.sn).mono ?_
  rintro e w' ⟨rfl, rfl⟩
  go_wp2_with fail
  refine (C3.out _ M3.out.e.sn).mono ?_
  rintro e w' ⟨rfl, rfl⟩
  go_wp2_with fail
  go_ret
  exact ⟨rfl, M3.out.b⟩

end Go.Proofs.YtncdeogpmodoaaaGreatDoor
