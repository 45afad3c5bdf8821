/-
  The reference's Bounds.
-/
import Derived.Test.YtncdeogpmodoaaaGreatDoorRb
set_option linter.unusedVariables false
set_option linter.unusedSimpArgs false
namespace Go.Proofs.YtncdeogpmodoaaaGreatDoor
open Go.RowKit
set_option maxRecDepth 100000

set_option maxHeartbeats 2000000 in
theorem rBounds_no (A : Option Addr) (c : Nat) (vs : List (Int × Int)) (co : Cs.Co) (dx from_ to_ rec_ : Int) (w : World) (hR : Rd w w.heap.size 2 A vs.length (vcells vs)) (hl : vs.length ≤ 1000000)
    (hno : (Cs.comF vs [co] dx).2 ≠ 0 ∨ (Cs.comF vs [co] dx).1.2.2 = false) :
    Calls Tryz.prog 53 #[.slice A vs.length c, cval co, .int .i64 dx, .int .i64 from_, .int .i64 to_, .int .i64 rec_] w fun e w' =>
      e = .returned (.tuple #[.slice none 0 0, .int .i64 (if (Cs.comF vs [co] dx).2 ≠ 0 then (Cs.comF vs [co] dx).2 else 5)]) ∧ Below w.heap.size w w' := by
  have hin := fun w h => rInterval_any A c vs co dx w h hl
  rw [cval_def] at hin ⊢
  have hB0 := (Below.refl w.heap.size w).alloc (Nat.le_refl _) (.cells #[.int .i64 co.b, .int .i64 co.n, .int .i64 co.l, .int .i64 co.y, .int .i64 co.w, .int .i64 co.s] 29)
  have HRD := Lib.hid ((hR.below hB0 (Nat.le_refl _)).more hB0.size)
  have HB0 := Lib.hid hB0
  obtain ⟨⟨⟨lo, hi, ok⟩, e⟩, hr⟩ : ∃ q, Cs.comF vs [co] dx = q := ⟨_, rfl⟩
  rw [hr] at hin hno ⊢
  dsimp only at hin hno ⊢
  have HIN := Lib.hid hin
  clear hin hr hB0 hR
  by_cases he : e = 0
  · obtain rfl : ok = false := by rcases hno with h | h <;> simp_all
    subst he
    rw [if_neg (by simp)]
    clear hno
    go_enter Tryz.func53, Tryz.ntmps53
    go_wp2_with fail
    refine (HIN.out _ HRD.out).mono ?_
    rintro e w1 ⟨rfl, hb1⟩
    have HB1 := Lib.hid (HB0.out.trans (hb1.mono HB0.out.size))
    clear hb1
    go_wp2_with fail
    go_ret2
    exact ⟨rfl, HB1.out⟩
  · rw [if_pos he]
    have hne : (e != 0) = true := by simp [he]
    clear hno he
    go_enter Tryz.func53, Tryz.ntmps53
    go_wp2_with fail
    refine (HIN.out _ HRD.out).mono ?_
    rintro e w1 ⟨rfl, hb1⟩
    have HB1 := Lib.hid (HB0.out.trans (hb1.mono HB0.out.size))
    clear hb1
    go_wp2_with fail
    go_ret2
    exact ⟨rfl, HB1.out⟩

set_option maxHeartbeats 2000000 in
theorem rBounds_yes (A : Option Addr) (c : Nat) (vs : List (Int × Int)) (co : Cs.Co) (dx from_ to_ rec_ lo hi : Int) (w : World) (hR : Rd w w.heap.size 2 A vs.length (vcells vs)) (hl : vs.length ≤ 1000000)
    (hr : Cs.comF vs [co] dx = ((lo, hi, true), 0)) (hlo : -100000 ≤ lo ∧ lo ≤ 100000) :
    Calls Tryz.prog 53 #[.slice A vs.length c, cval co, .int .i64 dx, .int .i64 from_, .int .i64 to_, .int .i64 rec_] w fun e w' =>
      ∃ b t, e = .returned (.tuple #[.slice (some ⟨b, 0, none⟩) 2 2, .int .i64 0]) ∧ w.heap.size ≤ b ∧ Bk w' b t #[.int .i64 from_, .int .i64 to_, .int .i64 hi, .int .i64 rec_, .int .i64 to_, .int .i64 from_, .int .i64 (-lo), .int .i64 rec_] ∧ Below w.heap.size w w' := by
  have hin := fun w h => rInterval_any A c vs co dx w h hl
  rw [cval_def] at hin ⊢
  have hB0 := (Below.refl w.heap.size w).alloc (Nat.le_refl _) (.cells #[.int .i64 co.b, .int .i64 co.n, .int .i64 co.l, .int .i64 co.y, .int .i64 co.w, .int .i64 co.s] 29)
  have HRD := Lib.hid ((hR.below hB0 (Nat.le_refl _)).more hB0.size)
  have HB0 := Lib.hid hB0
  rw [hr] at hin
  dsimp only at hin
  have HIN := Lib.hid hin
  obtain ⟨l0, l1⟩ := hlo
  clear hin hr hB0 hR
  go_enter Tryz.func53, Tryz.ntmps53
  go_wp2_with fail
  refine (HIN.out _ HRD.out).mono ?_
  rintro e w1 ⟨rfl, hb1⟩
  have HB1 := Lib.hid (HB0.out.trans (hb1.mono HB0.out.size))
  clear hb1
  go_wp2_with fail
  go_ret2
  exact ⟨_, _, rfl, HB1.out.size, Bk.new _ _ _, HB1.out.alloc HB1.out.size _⟩

end Go.Proofs.YtncdeogpmodoaaaGreatDoor
