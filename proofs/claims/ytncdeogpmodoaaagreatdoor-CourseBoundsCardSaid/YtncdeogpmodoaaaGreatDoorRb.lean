/-
  The reference's both, Interval.
-/
import Derived.Test.YtncdeogpmodoaaaGreatDoorRi
set_option linter.unusedVariables false
set_option linter.unusedSimpArgs false
namespace Go.Proofs.YtncdeogpmodoaaaGreatDoor
open Go.RowKit
set_option maxRecDepth 100000

namespace Cs
/-- The interval of a course for a step to either side, nothing where there is none. -/
def intM (vs : List (Int × Int)) (c : Co) (dx : Int) : Int × Int × Bool := if (intF vs c dx).2.2 then ((intF vs c dx).1, (intF vs c dx).2.1, true) else (0, 0, false)
theorem intM_neg {vs : List (Int × Int)} {c : Co} {dx : Int} (h : dx < 0) : intM vs c dx = (-(intN (aimOf vs (turn c)) (-dx)).2.1, -(intN (aimOf vs (turn c)) (-dx)).1, (intN (aimOf vs (turn c)) (-dx)).2.2) := by
  have e : intF vs c dx = (-(intA (aimOf vs (turn c)) (-dx)).2.1, -(intA (aimOf vs (turn c)) (-dx)).1, (intA (aimOf vs (turn c)) (-dx)).2.2) := by
    have e2 : aimEast vs c dx = aimOf vs (turn c) := by rw [aimEast, if_pos h]
    rw [intF, if_neg (by omega : ¬ 0 < dx), e2]
  rw [intM, e, intN]
  dsimp only
  rcases (intA (aimOf vs (turn c)) (-dx)).2.2 with _ | _ <;> simp
theorem intM_pos {vs : List (Int × Int)} {c : Co} {dx : Int} (h : 0 < dx) : intM vs c dx = intN (aimOf vs c) dx := by
  have e : intF vs c dx = intA (aimOf vs c) dx := by
    have e2 : aimEast vs c dx = aimOf vs c := by rw [aimEast, if_neg (by omega : ¬ dx < 0)]
    rw [intF, if_pos h, e2]
  rw [intM, e, intN]
theorem intN_wide {a : Aim} {dx : Int} (ok : AimOk a) (hx : -100000 ≤ dx ∧ dx ≤ 100000) : (-9223372036854775807 ≤ (intN a dx).1 ∧ (intN a dx).1 ≤ 9223372036854775807) ∧ (-9223372036854775807 ≤ (intN a dx).2.1 ∧ (intN a dx).2.1 ≤ 9223372036854775807) := by
  rw [intN]
  split
  · exact intA_wide ok hx
  · dsimp only; omega
end Cs

set_option maxHeartbeats 2000000 in
theorem both_any (vs : List (Int × Int)) (co : Cs.Co) (dx : Int) (w : World) (hco : Cs.courseOk co = true) (hx : -100000 ≤ dx ∧ dx ≤ 100000) (hx0 : dx ≠ 0) :
    Calls Tryz.prog 72 #[cval co, .int .i64 (Cs.dec vs co.y).1, .int .i64 dx] w fun e w' => e = .returned (.tuple #[.int .i64 (Cs.intM vs co dx).1, .int .i64 (Cs.intM vs co dx).2.1, .bool (Cs.intM vs co dx).2.2]) ∧ Below w.heap.size w w' := by
  have hdr := Cs.dec_range vs co.y
  obtain ⟨⟨b0, b1⟩, _⟩ := (Cs.courseOk_iff co).1 hco
  by_cases hd : dx < 0
  · have hm := fun w => rinterval_any (Cs.turn co) (Cs.dec vs co.y).1 (-dx) w (Cs.turn_ok hco) hdr (by omega)
    rw [Cs.intM_neg hd]
    have hr : Cs.intN (Cs.aimOf vs (Cs.turn co)) (-dx) = Cs.intN ⟨Cs.norm ((Cs.turn co).b + (Cs.dec vs co.y).1 + 90) - 90 - (Cs.turn co).n, Cs.norm ((Cs.turn co).b + (Cs.dec vs co.y).1 + 90) - 90 + (Cs.turn co).n, Cs.nearF (Cs.turn co), Cs.farF (Cs.turn co)⟩ (-dx) := rfl
    have hwd := Cs.intN_wide (a := Cs.aimOf vs (Cs.turn co)) (dx := -dx) (Cs.aimOf_ok vs (Cs.turn_ok hco)) (by omega)
    rw [hr] at hwd ⊢
    obtain ⟨⟨lo, hi, ok⟩, hrr⟩ : ∃ q, Cs.intN ⟨Cs.norm ((Cs.turn co).b + (Cs.dec vs co.y).1 + 90) - 90 - (Cs.turn co).n, Cs.norm ((Cs.turn co).b + (Cs.dec vs co.y).1 + 90) - 90 + (Cs.turn co).n, Cs.nearF (Cs.turn co), Cs.farF (Cs.turn co)⟩ (-dx) = q := ⟨_, rfl⟩
    rw [hrr] at hm hwd ⊢
    dsimp only at hm hwd ⊢
    obtain ⟨⟨i0, i1⟩, ⟨i2, i3⟩⟩ := hwd
    have htv : cval (Cs.turn co) = .agg #[.int .i64 (Cs.norm (co.b + 180)), .int .i64 co.n, .int .i64 co.l, .int .i64 co.y, .int .i64 co.w, .int .i64 co.s] := rfl
    rw [htv] at hm
    rw [cval_def]
    have hnm := fun w => rnorm_any (co.b + 180) w
    obtain ⟨nb, hnb⟩ : ∃ q, Cs.norm (co.b + 180) = q := ⟨_, rfl⟩
    rw [hnb] at hm hnm
    obtain ⟨e, he⟩ : ∃ q, (Cs.dec vs co.y).1 = q := ⟨_, rfl⟩
    rw [he] at hm ⊢
    have HM := Lib.hid hm
    have HNM := Lib.hid hnm
    have HB0 := Lib.hid ((Below.refl w.heap.size w).alloc (Nat.le_refl _) (.cells #[.int .i64 nb, .int .i64 co.n, .int .i64 co.l, .int .i64 co.y, .int .i64 co.w, .int .i64 co.s] 29))
    clear hm hr hrr htv hnm hnb he hdr hco
    go_enter Tryz.func72, Tryz.ntmps72
    go_wp2_with (go_at_call 16; refine (HNM.out _).mono ?_; rintro e w' ⟨rfl, rfl⟩)
    refine (HM.out _).mono ?_
    rintro e w2 ⟨rfl, hb2⟩
    have HB2 := Lib.hid (HB0.out.trans (hb2.mono HB0.out.size))
    clear hb2
    go_wp2_with fail
    go_ret3
    exact ⟨rfl, HB2.out⟩
  · have hm := fun w => rinterval_any co (Cs.dec vs co.y).1 dx w hco hdr hx
    rw [Cs.intM_pos (by omega)]
    have hr : Cs.intN (Cs.aimOf vs co) dx = Cs.intN ⟨Cs.norm (co.b + (Cs.dec vs co.y).1 + 90) - 90 - co.n, Cs.norm (co.b + (Cs.dec vs co.y).1 + 90) - 90 + co.n, Cs.nearF co, Cs.farF co⟩ dx := rfl
    rw [hr]
    obtain ⟨⟨lo, hi, ok⟩, hrr⟩ : ∃ q, Cs.intN ⟨Cs.norm (co.b + (Cs.dec vs co.y).1 + 90) - 90 - co.n, Cs.norm (co.b + (Cs.dec vs co.y).1 + 90) - 90 + co.n, Cs.nearF co, Cs.farF co⟩ dx = q := ⟨_, rfl⟩
    rw [hrr] at hm ⊢
    rw [cval_def] at hm ⊢
    dsimp only at hm ⊢
    obtain ⟨e, he⟩ : ∃ q, (Cs.dec vs co.y).1 = q := ⟨_, rfl⟩
    rw [he] at hm ⊢
    have HM := Lib.hid hm
    have HB0 := Lib.hid ((Below.refl w.heap.size w).alloc (Nat.le_refl _) (.cells #[.int .i64 co.b, .int .i64 co.n, .int .i64 co.l, .int .i64 co.y, .int .i64 co.w, .int .i64 co.s] 29))
    clear hm hr hrr he hdr hco
    go_enter Tryz.func72, Tryz.ntmps72
    go_wp2_with fail
    refine (HM.out _).mono ?_
    rintro e w2 ⟨rfl, hb2⟩
    have HB2 := Lib.hid (HB0.out.trans (hb2.mono HB0.out.size))
    clear hb2
    go_wp2_with fail
    go_ret3
    exact ⟨rfl, HB2.out⟩

namespace Cs
theorem stepE_east {vs : List (Int × Int)} {c : Co} {dx : Int} : stepE vs c dx 0 = eastE vs [c] dx := by
  rw [stepE]
  split
  · rfl
  · rename_i h
    rw [if_neg (by omega)]
    exact (Decidable.not_not.1 h).symm
theorem comF_one {vs : List (Int × Int)} {c : Co} {dx : Int} (h : eastE vs [c] dx = 0) : comF vs [c] dx = (intM vs c dx, 0) := by
  obtain ⟨h1, h2, h3, h4⟩ := eastE_zero h
  rw [comF, if_neg (by simp), if_neg (by simp), if_neg (by rw [h]; simp), comG_one vs (checkE_one h1) h2 h3 h4]
  rfl
theorem comF_err {vs : List (Int × Int)} {c : Co} {dx : Int} (h : eastE vs [c] dx ≠ 0) : comF vs [c] dx = ((0, 0, false), eastE vs [c] dx) := by
  rw [comF, if_neg (by simp), if_neg (by simp), if_pos h]
end Cs

set_option maxHeartbeats 2000000 in
theorem rInterval_any (A : Option Addr) (c : Nat) (vs : List (Int × Int)) (co : Cs.Co) (dx : Int) (w : World) (hR : Rd w w.heap.size 2 A vs.length (vcells vs)) (hl : vs.length ≤ 1000000) :
    Calls Tryz.prog 43 #[.slice A vs.length c, cval co, .int .i64 dx] w fun e w' => e = .returned (.tuple #[.int .i64 (Cs.comF vs [co] dx).1.1, .int .i64 (Cs.comF vs [co] dx).1.2.1, .bool (Cs.comF vs [co] dx).1.2.2, .int .i64 (Cs.comF vs [co] dx).2]) ∧ Below w.heap.size w w' := by
  have hop := fun w h => opened_any A c vs co dx 0 w h hl
  have hbo := fun w h1 h2 h3 => both_any vs co dx w h1 h2 h3
  have hB0 := (Below.refl w.heap.size w).alloc (Nat.le_refl _) (.cells #[.int .i64 co.b, .int .i64 co.n, .int .i64 co.l, .int .i64 co.y, .int .i64 co.w, .int .i64 co.s] 29)
  have HRD := Lib.hid ((hR.below hB0 (Nat.le_refl _)).more hB0.size)
  have HB0 := Lib.hid hB0
  have KC := Lib.hid (Bk.new w 29 #[.int .i64 co.b, .int .i64 co.n, .int .i64 co.l, .int .i64 co.y, .int .i64 co.w, .int .i64 co.s])
  rw [cval_def] at hop hbo ⊢
  rw [Cs.stepE_east] at hop
  clear hB0 hR
  by_cases he : Cs.eastE vs [co] dx = 0
  · obtain ⟨g1, g2, g3, g4⟩ := Cs.eastE_zero he
    have g5 := Cs.checkE_one g1
    rw [Cs.comF_one he]
    rw [if_pos he, he] at hop
    obtain ⟨x, hx⟩ : ∃ q, (Cs.dec vs co.y).1 = q := ⟨_, rfl⟩
    rw [hx] at hop hbo
    obtain ⟨⟨lo, hi, ok⟩, hrr⟩ : ∃ q, Cs.intM vs co dx = q := ⟨_, rfl⟩
    rw [hrr] at hbo ⊢
    dsimp only at hbo ⊢
    have HOP := Lib.hid hop
    have HBO := Lib.hid fun w => hbo w g5 ⟨g3, g4⟩ g2
    clear hop hbo he hx hrr g1 g2 g3 g4 g5
    go_enter Tryz.func43, Tryz.ntmps43
    go_wp2_with fail
    refine (HOP.out _ HRD.out).mono ?_
    rintro e w1 ⟨rfl, hb1⟩
    have k1 := KC.out.below hb1 (by simp)
    have HB1 := Lib.hid (HB0.out.trans (hb1.mono HB0.out.size))
    have p0 := (k1.cell 0).trans rfl
    have p1 := (k1.cell 1).trans rfl
    have p2 := (k1.cell 2).trans rfl
    have p3 := (k1.cell 3).trans rfl
    have p4 := (k1.cell 4).trans rfl
    have p5 := (k1.cell 5).trans rfl
    have lp := k1.lt
    clear hb1 k1
    go_wp2_with fail
    refine (HBO.out _).mono ?_
    rintro e w2 ⟨rfl, hb2⟩
    have HB2 := Lib.hid (HB1.out.trans (hb2.mono HB1.out.size))
    clear hb2
    go_wp2_with fail
    refine bodyPost_ret (results_tmp4 rfl _ _ _) rfl ?_
    exact ⟨rfl, HB2.out⟩
  · rw [Cs.comF_err he]
    dsimp only
    rw [if_neg he] at hop
    have hne : (Cs.eastE vs [co] dx != 0) = true := by simp [he]
    obtain ⟨s, hss⟩ : ∃ s, Cs.eastE vs [co] dx = s := ⟨_, rfl⟩
    rw [hss] at hop hne ⊢
    have HOP := Lib.hid hop
    clear hop hbo he hss
    go_enter Tryz.func43, Tryz.ntmps43
    go_wp2_with fail
    refine (HOP.out _ HRD.out).mono ?_
    rintro e w1 ⟨rfl, hb1⟩
    have HB1 := Lib.hid (HB0.out.trans (hb1.mono HB0.out.size))
    clear hb1
    go_wp2_with fail
    refine bodyPost_ret (results_tmp4 rfl _ _ _) rfl ?_
    exact ⟨rfl, HB1.out⟩

end Go.Proofs.YtncdeogpmodoaaaGreatDoor
