/-
  CourseBack: the law's walk.
-/
import Derived.Test.YtncdeogpmodoaabGreatDoorLaw
set_option linter.unusedVariables false
set_option linter.unusedSimpArgs false
namespace Go.Proofs.YtncdeogpmodoaabGreatDoor
open Go.RowKit
set_option maxRecDepth 100000

namespace Cs
theorem step_turn {vs : List (Int × Int)} {c : Co} (h : courseOk c = true) (dx dy : Int) : stepE vs (turn c) (-dx) (-dy) = stepE vs c dx dy := by
  have ht := turn_ok h
  have hc : checkE vs [turn c] = checkE vs [c] := by
    simp only [checkE, List.all_cons, List.all_nil, h, ht]
    rfl
  have he : eastE vs [turn c] (-dx) = eastE vs [c] dx := by
    simp only [eastE, hc]
    have : (-dx = 0 ∨ -dx < -100000 ∨ 100000 < -dx) ↔ (dx = 0 ∨ dx < -100000 ∨ 100000 < dx) := by omega
    simp only [this]
  simp only [stepE, he]
  have : (-dy < -100000 ∨ 100000 < -dy) ↔ (dy < -100000 ∨ 100000 < dy) := by omega
  simp only [this]
theorem fits_turn {vs : List (Int × Int)} {c : Co} (h : courseOk c = true) (dx dy : Int) : fitsF vs (turn c) (-dx) (-dy) = fitsF vs c dx dy := by
  have hs := step_turn (vs := vs) h dx dy
  unfold fitsF misfitF
  rw [hs]
  by_cases he : stepE vs c dx dy = 0
  · obtain ⟨_, g2, _⟩ := stepE_zero he
    rw [misF_turn vs h g2]
  · rw [if_pos he, if_pos he]
theorem rev_yes {c : Co} (h : courseOk c = true) : revF c = (turn c, 0) ∧ revF (turn c) = (c, 0) := by
  refine ⟨by rw [revF, if_pos h], ?_⟩
  rw [revF, if_pos (turn_ok h), turn_turn h]
end Cs

set_option maxHeartbeats 8000000 in
theorem courseBack_any (A : Option Addr) (c : Nat) (vs : List (Int × Int)) (co : Cs.Co) (dx dy : Int) (w : World) (hE : Env w) (hR : Rd w w.heap.size 2 A vs.length (vcells vs)) (hn : vs.length ≤ 9223372036854775807) :
    Calls Tryz.prog 3 #[.slice A vs.length c, cval co, .int .i64 dx, .int .i64 dy] w fun e w' => e = .returned (.bool true) ∧ Below w.heap.size w w' := by
  have s0 := Lib.hid (Lw.new (c := co) hE hR)
  clear hE hR
  have hfew := few_any A c vs.length hn
  simp only [cval_def]
  rcases hd : decide ((vs.length : Int) ≤ 60) with _ | _
  · rw [hd] at hfew
    have FE := Lib.hid hfew
    clear hfew hd hn
    go_enter Tryz.func3, Tryz.ntmps3
    go_wp2_with fail
    refine (FE.out _).mono ?_
    rintro e w' ⟨rfl, rfl⟩
    go_wp2_with fail
    refine (measured_any _ s0.out.e).mono ?_
    rintro e w1 ⟨rfl, hb⟩
    have s1 := Lib.hid (s0.out.next hb)
    clear hb
    go_wp2_with fail
    go_ret
    exact ⟨rfl, s1.out.b⟩
  · rw [hd] at hfew
    have hl : vs.length ≤ 60 := by have := of_decide_eq_true hd; omega
    have FE := Lib.hid hfew
    clear hfew hd hn
    rcases hx0 : decide (dx < -100000) with _ | _
    case true =>
      go_enter Tryz.func3, Tryz.ntmps3
      go_wp2_with fail
      refine (FE.out _).mono ?_
      rintro e w' ⟨rfl, rfl⟩
      go_wp2_with fail
      refine (measured_any _ s0.out.e).mono ?_
      rintro e w1 ⟨rfl, hb⟩
      have s1 := Lib.hid (s0.out.next hb)
      clear hb
      go_wp2_with fail
      go_ret
      exact ⟨rfl, s1.out.b⟩
    rcases hx1 : decide (100000 < dx) with _ | _
    case true =>
      go_enter Tryz.func3, Tryz.ntmps3
      go_wp2_with fail
      refine (FE.out _).mono ?_
      rintro e w' ⟨rfl, rfl⟩
      go_wp2_with fail
      refine (measured_any _ s0.out.e).mono ?_
      rintro e w1 ⟨rfl, hb⟩
      have s1 := Lib.hid (s0.out.next hb)
      clear hb
      go_wp2_with fail
      go_ret
      exact ⟨rfl, s1.out.b⟩
    rcases hy0 : decide (dy < -100000) with _ | _
    case true =>
      go_enter Tryz.func3, Tryz.ntmps3
      go_wp2_with fail
      refine (FE.out _).mono ?_
      rintro e w' ⟨rfl, rfl⟩
      go_wp2_with fail
      refine (measured_any _ s0.out.e).mono ?_
      rintro e w1 ⟨rfl, hb⟩
      have s1 := Lib.hid (s0.out.next hb)
      clear hb
      go_wp2_with fail
      go_ret
      exact ⟨rfl, s1.out.b⟩
    rcases hy1 : decide (100000 < dy) with _ | _
    case true =>
      go_enter Tryz.func3, Tryz.ntmps3
      go_wp2_with fail
      refine (FE.out _).mono ?_
      rintro e w' ⟨rfl, rfl⟩
      go_wp2_with fail
      refine (measured_any _ s0.out.e).mono ?_
      rintro e w1 ⟨rfl, hb⟩
      have s1 := Lib.hid (s0.out.next hb)
      clear hb
      go_wp2_with fail
      go_ret
      exact ⟨rfl, s1.out.b⟩
    have r0 : -100000 ≤ dx := by have := of_decide_eq_false hx0; omega
    have r1 : dx ≤ 100000 := by have := of_decide_eq_false hx1; omega
    have r2 : -100000 ≤ dy := by have := of_decide_eq_false hy0; omega
    have r3 : dy ≤ 100000 := by have := of_decide_eq_false hy1; omega
    have b1 := fun W => Reverse_any co W
    simp only [cval_def] at b1
    rcases hok : Cs.courseOk co with _ | _
    · have hrev : Cs.revF co = (⟨0, 0, 0, 0, 0, 0⟩, 1) := by rw [Cs.revF, hok]; rfl
      have b2 := fun W => checkCourse_any co W
      rw [show Cs.courseE co = 1 by rw [Cs.courseE, hok]; rfl] at b2
      simp only [cval_def] at b2
      rw [hrev] at b1
      dsimp only at b1
      have B1 := Lib.hid b1
      have B2 := Lib.hid b2
      clear b1 b2 hrev hok
      go_enter Tryz.func3, Tryz.ntmps3
      go_wp2_with fail
      refine (FE.out _).mono ?_
      rintro e w' ⟨rfl, rfl⟩
      obtain ⟨c0, c1, c2, c3, c4, c5, cl⟩ := s0.out.cells
      go_wp2_with fail
      refine (B1.out _).mono ?_
      rintro e w1 ⟨rfl, hb⟩
      have s1 := Lib.hid (s0.out.next hb)
      clear hb c0 c1 c2 c3 c4 c5 cl
      have K1 := Lib.hid (Bk.new w1 26 #[.int .i64 0, .int .i64 0, .int .i64 0, .int .i64 0, .int .i64 0, .int .i64 0])
      have s2 := Lib.hid (s1.out.alloc (.cells #[.int .i64 0, .int .i64 0, .int .i64 0, .int .i64 0, .int .i64 0, .int .i64 0] 26))
      go_wp2_with fail
      refine (measured_any _ s2.out.e).mono ?_
      rintro e w2 ⟨rfl, hb⟩
      have s3 := Lib.hid (s2.out.next hb)
      have K2 := Lib.hid (K1.out.below hb K1.out.lt)
      clear hb
      obtain ⟨c0, c1, c2, c3, c4, c5, cl⟩ := s3.out.cells
      go_wp2_with fail
      refine (B2.out _).mono ?_
      rintro e w3 ⟨rfl, hb⟩
      have s4 := Lib.hid (s3.out.next hb)
      have K3 := Lib.hid (K2.out.below hb K2.out.lt)
      clear hb c0 c1 c2 c3 c4 c5 cl
      have d0 := (K3.out.cell 0).trans rfl
      have d1 := (K3.out.cell 1).trans rfl
      have d2 := (K3.out.cell 2).trans rfl
      have d3 := (K3.out.cell 3).trans rfl
      have d4 := (K3.out.cell 4).trans rfl
      have d5 := (K3.out.cell 5).trans rfl
      have dl := K3.out.lt
      go_wp2_with fail
      go_ret
      exact ⟨rfl, s4.out.b⟩
    · obtain ⟨e1, e2⟩ := Cs.rev_yes hok
      have b2 := fun W => Reverse_any (Cs.turn co) W
      have b3 := fun W hs h => Fits_any A c vs co dx dy W hs h (by omega)
      have b4 := fun W hs h => Fits_any A c vs (Cs.turn co) (-dx) (-dy) W hs h (by omega)
      rw [Cs.fits_turn hok] at b4
      rw [e1] at b1
      rw [e2] at b2
      obtain ⟨x, hx⟩ : ∃ x, Cs.turn co = x := ⟨_, rfl⟩
      rw [hx] at b1 b2 b4
      obtain ⟨is, hi⟩ : ∃ x, (Cs.fitsF vs co dx dy).1 = x := ⟨_, rfl⟩
      obtain ⟨e, he⟩ : ∃ x, (Cs.fitsF vs co dx dy).2 = x := ⟨_, rfl⟩
      simp only [hi, he] at b3 b4
      simp only [cval_def] at b1 b2 b3 b4
      have B1 := Lib.hid b1
      have B2 := Lib.hid b2
      have B3 := Lib.hid b3
      have B4 := Lib.hid b4
      clear b1 b2 b3 b4 e1 e2 hx hi he hok hl
      go_enter Tryz.func3, Tryz.ntmps3
      go_wp2_with fail
      refine (FE.out _).mono ?_
      rintro e w' ⟨rfl, rfl⟩
      obtain ⟨c0, c1, c2, c3, c4, c5, cl⟩ := s0.out.cells
      go_wp2_with fail
      refine (B1.out _).mono ?_
      rintro e w1 ⟨rfl, hb⟩
      have s1 := Lib.hid (s0.out.next hb)
      clear hb c0 c1 c2 c3 c4 c5 cl
      have K1 := Lib.hid (Bk.new w1 26 #[.int .i64 x.b, .int .i64 x.n, .int .i64 x.l, .int .i64 x.y, .int .i64 x.w, .int .i64 x.s])
      have s2 := Lib.hid (s1.out.alloc (.cells #[.int .i64 x.b, .int .i64 x.n, .int .i64 x.l, .int .i64 x.y, .int .i64 x.w, .int .i64 x.s] 26))
      have d0 := (K1.out.cell 0).trans rfl
      have d1 := (K1.out.cell 1).trans rfl
      have d2 := (K1.out.cell 2).trans rfl
      have d3 := (K1.out.cell 3).trans rfl
      have d4 := (K1.out.cell 4).trans rfl
      have d5 := (K1.out.cell 5).trans rfl
      have dl := K1.out.lt
      go_wp2_with fail
      refine (B2.out _).mono ?_
      rintro e w2 ⟨rfl, hb⟩
      have s3 := Lib.hid (s2.out.next hb)
      have K2 := Lib.hid (K1.out.below hb K1.out.lt)
      clear hb d0 d1 d2 d3 d4 d5 dl
      have K3 := Lib.hid (K2.out.alloc (.cells #[.int .i64 co.b, .int .i64 co.n, .int .i64 co.l, .int .i64 co.y, .int .i64 co.w, .int .i64 co.s] 26))
      have L3 := Lib.hid (Bk.new w2 26 #[.int .i64 co.b, .int .i64 co.n, .int .i64 co.l, .int .i64 co.y, .int .i64 co.w, .int .i64 co.s])
      have s4 := Lib.hid (s3.out.alloc (.cells #[.int .i64 co.b, .int .i64 co.n, .int .i64 co.l, .int .i64 co.y, .int .i64 co.w, .int .i64 co.s] 26))
      obtain ⟨c0, c1, c2, c3, c4, c5, cl⟩ := s4.out.cells
      go_wp2_with fail
      refine (B3.out _ s4.out.e.sn s4.out.rd).mono ?_
      rintro e w3 ⟨rfl, hb⟩
      have s5 := Lib.hid (s4.out.next hb)
      have K4 := Lib.hid (K3.out.below hb K3.out.lt)
      have L4 := Lib.hid (L3.out.below hb L3.out.lt)
      clear hb c0 c1 c2 c3 c4 c5 cl
      have d0 := (K4.out.cell 0).trans rfl
      have d1 := (K4.out.cell 1).trans rfl
      have d2 := (K4.out.cell 2).trans rfl
      have d3 := (K4.out.cell 3).trans rfl
      have d4 := (K4.out.cell 4).trans rfl
      have d5 := (K4.out.cell 5).trans rfl
      have dl := K4.out.lt
      go_wp2_with fail
      refine (B4.out _ s5.out.e.sn s5.out.rd).mono ?_
      rintro e w4 ⟨rfl, hb⟩
      have s6 := Lib.hid (s5.out.next hb)
      have L5 := Lib.hid (L4.out.below hb L4.out.lt)
      clear hb d0 d1 d2 d3 d4 d5 dl
      go_wp2_with fail
      refine (measured_any _ s6.out.e).mono ?_
      rintro e w5 ⟨rfl, hb⟩
      have s7 := Lib.hid (s6.out.next hb)
      have L6 := Lib.hid (L5.out.below hb L5.out.lt)
      clear hb
      obtain ⟨c0, c1, c2, c3, c4, c5, cl⟩ := s7.out.cells
      have d0 := (L6.out.cell 0).trans rfl
      have d1 := (L6.out.cell 1).trans rfl
      have d2 := (L6.out.cell 2).trans rfl
      have d3 := (L6.out.cell 3).trans rfl
      have d4 := (L6.out.cell 4).trans rfl
      have d5 := (L6.out.cell 5).trans rfl
      have dl := L6.out.lt
      go_wp2_with fail
      go_ret
      exact ⟨rfl, s7.out.b⟩

end Go.Proofs.YtncdeogpmodoaabGreatDoor
