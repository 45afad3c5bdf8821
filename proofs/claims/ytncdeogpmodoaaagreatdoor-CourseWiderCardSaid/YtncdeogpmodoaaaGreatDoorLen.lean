/-
  Length and Acres of course.
-/
import Derived.Test.YtncdeogpmodoaaaGreatDoorCnt
set_option linter.unusedVariables false
set_option linter.unusedSimpArgs false
namespace Go.Proofs.YtncdeogpmodoaaaGreatDoor
open Go.RowKit Go.Shelf
set_option maxRecDepth 100000

set_option maxHeartbeats 2000000 in
theorem counted_no (g : Value) (n most : Int) (h : ¬ (0 ≤ n ∧ n ≤ most)) (w : World) :
    Calls Tryz.prog 78 #[g, .int .i64 n, .int .i64 most] w fun e w' => e = .returned (sv []) ∧ Below w.heap.size w w' := by
  have hd : decide (0 ≤ n ∧ n ≤ most) = false := decide_eq_false h
  have HD := Lib.hid hd
  have HB := Lib.hid ((Below.refl w.heap.size w).alloc (Nat.le_refl _) (.cells #[.int .i64 n] 3))
  clear hd h
  go_enter Tryz.func78, Tryz.ntmps78
  go_wp2_with (go_at_call 61; refine (between_any _ _ _ _).mono ?_; rw [HD.out]; rintro e w' ⟨rfl, rfl⟩)
  go_ret
  exact ⟨rfl, HB.out⟩

set_option maxHeartbeats 2000000 in
theorem counted_zero (g : Value) (most : Int) (h : 0 ≤ most) (w : World) :
    Calls Tryz.prog 78 #[g, .int .i64 0, .int .i64 most] w fun e w' => e = .returned (sv Cs.zeroL) ∧ Below w.heap.size w w' := by
  have hd : decide ((0 : Int) ≤ 0 ∧ 0 ≤ most) = true := decide_eq_true ⟨by omega, h⟩
  have HD := Lib.hid hd
  have HB := Lib.hid ((Below.refl w.heap.size w).alloc (Nat.le_refl _) (.cells #[.int .i64 0] 3))
  clear hd h
  go_enter Tryz.func78, Tryz.ntmps78
  go_wp2_with (go_at_call 61; refine (between_any _ _ _ _).mono ?_; rw [HD.out]; rintro e w' ⟨rfl, rfl⟩)
  go_ret
  exact ⟨rfl, HB.out⟩

theorem counted_any (g : Nat) (us : List Uo) (hus : us.length ≤ 4) (hst : ∀ n, 1 ≤ n → ∀ Kp w, SeqStopsK Fence.wide n Tryz.prog g #[] uvals Kp (fun xs => xs = us) (fun pre => pre <+: us) us.length w)
    (eg : ∀ args w, (callFunc g args).run Tryz.prog w = .ok (.enter g args) w) (n most : Int) (h2 : most ≤ 1000000000000) (h3 : 0 ≤ most) (w : World) (hE : Env w) :
    Calls Tryz.prog 78 #[.func (.func g) #[] #[], .int .i64 n, .int .i64 most] w fun e w' => e = .returned (sv (Cs.writeF (us.map (·.1)) most n)) ∧ Below w.heap.size w w' := by
  unfold Cs.writeF
  by_cases h : 0 ≤ n ∧ n ≤ most
  · rw [if_pos h]
    by_cases h0 : n = 0
    · subst h0
      rw [if_pos rfl]
      exact counted_zero _ most h3 w
    · rw [if_neg h0]
      exact counted_yes g us hus hst eg n most (by omega) h.2 h2 w hE
  · rw [if_neg h]
    exact counted_no _ n most h w

set_option maxHeartbeats 2000000 in
theorem Length_any (n : Int) (w : World) (hE : Env w) :
    Calls Tryz.prog 58 #[.int .i64 n] w fun e w' => e = .returned (sv (Cs.lenF n)) ∧ Below w.heap.size w w' := by
  have HC := Lib.hid (counted_any 77 lenO (by decide) (fun n h Kp w => lengths_stops n h Kp w) (enters_of Tryz.func77 (by kernel_rfl) rfl) n 1000000 (by decide) (by decide) w hE)
  clear hE
  go_enter Tryz.func58, Tryz.ntmps58
  go_wp2_with fail
  refine HC.out.mono ?_
  rintro e w1 ⟨rfl, hb1⟩
  rw [sv_def]
  go_wp2_with fail
  go_ret
  exact ⟨rfl, hb1⟩

set_option maxHeartbeats 2000000 in
theorem Acres_any (n : Int) (w : World) (hE : Env w) :
    Calls Tryz.prog 59 #[.int .i64 n] w fun e w' => e = .returned (sv (Cs.acrF n)) ∧ Below w.heap.size w w' := by
  have HC := Lib.hid (counted_any 79 areO (by decide) (fun n h Kp w => areas_stops n h Kp w) (enters_of Tryz.func79 (by kernel_rfl) rfl) n 1000000000000 (by decide) (by decide) w hE)
  clear hE
  go_enter Tryz.func59, Tryz.ntmps59
  go_wp2_with fail
  refine HC.out.mono ?_
  rintro e w1 ⟨rfl, hb1⟩
  rw [sv_def]
  go_wp2_with fail
  go_ret
  exact ⟨rfl, hb1⟩

end Go.Proofs.YtncdeogpmodoaaaGreatDoor
