/-
  What the claim needs: contracts.
-/
import Derived.Test.YtccikcpcfdjobaaGreatDoorBs18
set_option linter.unusedVariables false
set_option linter.unusedSimpArgs false
set_option maxHeartbeats 8000000
set_option maxRecDepth 100000
namespace Go.Proofs.YtccikcpcfdjobaaGreatDoor
section
open Go.RowKit
theorem y8g (x : Dd.Ca) (w : World) :
  Calls Tryz.prog 124 #[caval x] w fun e w' => e = .returned (.bool (Dd.bare x)) /\ Below w.heap.size w w' := by
 have hd : Dd.bare x = if x.k = 1 then decide (x.o = 0 /\ x.b = 0 /\ x.c = Dd.co0)
  else if x.k = 2 then decide (x.b = 0 /\ x.c = Dd.co0)
  else if x.k = 3 then decide (x.o = 0 /\ x.s = 0 /\ x.e = 0)
  else if x.k = 4 then decide (x.s = 0 /\ x.e = 0 /\ x.c = Dd.co0)
  else if x.k = 5 then decide (x.o = 0 /\ x.c = Dd.co0)
  else decide (x.o = 0 /\ x.b = 0 /\ x.s = 0 /\ x.e = 0 /\ x.c = Dd.co0) := rfl
 have HB := jQ (fun (a b : Obj) => ((Below.refl w.heap.size w).alloc (Nat.le_refl _) a).alloc (by simp) b);obtain ⟨R, hR⟩ := zE (Dd.bare x);rw [hR] at hd ⊢;clear hR;simp only [y03];obtain ⟨k, l, o, a, b, s, e, cb, cn, cl, cy, cw, cs⟩ := x;dsimp only at hd ⊢;by_cases k1 : k = 1
 ·subst k1;rw [if_pos rfl] at hd;have HD := jQ hd;clear hd;go_enter Tryz.func124, Tryz.ntmps124;go_wp2_with fail
  all_goals
   go_ret;exact ⟨y00 (by rw [HD.o]; simp_all [Dd.co0]), HB.o _ _⟩
 rw [if_neg k1] at hd;have g1 : (k == 1) = false := by simp [k1]
 by_cases k2 : k = 2
 ·subst k2;rw [if_pos rfl] at hd;have HD := jQ hd;clear hd;go_enter Tryz.func124, Tryz.ntmps124;go_wp2_with fail
  all_goals
   go_ret;exact ⟨y00 (by rw [HD.o]; simp_all [Dd.co0]), HB.o _ _⟩
 rw [if_neg k2] at hd;have g2 : (k == 2) = false := by simp [k2]
 by_cases k3 : k = 3
 ·subst k3;rw [if_pos rfl] at hd;have HD := jQ hd;clear hd;go_enter Tryz.func124, Tryz.ntmps124;go_wp2_with fail
  all_goals
   go_ret;exact ⟨y00 (by rw [HD.o]; simp_all [Dd.co0]), HB.o _ _⟩
 rw [if_neg k3] at hd;have g3 : (k == 3) = false := by simp [k3]
 by_cases k4 : k = 4
 ·subst k4;rw [if_pos rfl] at hd;have HD := jQ hd;clear hd;go_enter Tryz.func124, Tryz.ntmps124;go_wp2_with fail
  all_goals
   go_ret;exact ⟨y00 (by rw [HD.o]; simp_all [Dd.co0]), HB.o _ _⟩
 rw [if_neg k4] at hd;have g4 : (k == 4) = false := by simp [k4]
 by_cases k5 : k = 5
 ·subst k5;rw [if_pos rfl] at hd;have HD := jQ hd;clear hd;go_enter Tryz.func124, Tryz.ntmps124;go_wp2_with fail
  all_goals
   go_ret;exact ⟨y00 (by rw [HD.o]; simp_all [Dd.co0]), HB.o _ _⟩
 rw [if_neg k5] at hd;have g5 : (k == 5) = false := by simp [k5]
 clear k1 k2 k3 k4 k5;have HD := jQ hd;clear hd;go_enter Tryz.func124, Tryz.ntmps124;go_wp2_with fail
 all_goals
  go_ret;exact ⟨y00 (by rw [HD.o]; simp_all [Dd.co0]), HB.o _ _⟩
end
end Go.Proofs.YtccikcpcfdjobaaGreatDoor
