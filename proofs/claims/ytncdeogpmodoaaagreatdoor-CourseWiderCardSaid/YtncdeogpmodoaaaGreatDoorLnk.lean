/-
  Links and Area of course.
-/
import Derived.Test.YtncdeogpmodoaaaGreatDoorRead
set_option linter.unusedVariables false
set_option linter.unusedSimpArgs false
namespace Go.Proofs.YtncdeogpmodoaaaGreatDoor
open Go.RowKit Go.Shelf
set_option maxRecDepth 100000

theorem sumM_any (g : Nat) (w : World) :
    Calls Tryz.prog 76 #[.func (.func g) #[] #[]] w fun e w' => e = .returned (.func (.func 89) #[] #[.pointer (some ⟨w.heap.size, 0, none⟩)]) ∧ w' = w.alloc (.cells #[.func (.func g) #[] #[]] 105) := by
  have hmf : ∀ (fn : Fn) (first cap : Array Value) (w : World), (Instr.makeFunc fn first cap).run Tryz.prog w = .ok (.func fn first cap) w := fun _ _ _ _ => rfl
  go_enter Tryz.func76, Tryz.ntmps76
  go_wp2
  go_ret
  exact ⟨rfl, rfl⟩

set_option maxHeartbeats 2000000 in
theorem Links_any (s : Cs.Bs) (hs : s.length ≤ 1000000) (w : World) (hE : Env w) :
    Calls Tryz.prog 57 #[sv s] w fun e w' => e = .returned (.tuple #[.int .i64 (Cs.lnkF s).1, .int .i64 (Cs.lnkF s).2]) ∧ Below w.heap.size w w' := by
  have hB0 := (Below.refl w.heap.size w).alloc (Nat.le_refl _) (.cells #[.func (.func 77) #[] #[]] 105)
  have kU := Bk.new w 105 #[.func (.func 77) #[] #[]]
  have hrd := read_any 89 58 #[.pointer (some ⟨w.heap.size, 0, none⟩)] (Cs.sumF Cs.lenU 0) Cs.lenF s hs _ (hE.step hB0)
    (fun A c ws W hb hEW hR hc hn hl _ => sum1_any 77 lenO (fun n h Kp w => lengths_stops n h Kp w) (enters_of Tryz.func77 (by kernel_rfl) rfl) w.heap.size _ A c ws W hEW (kU.below hb (by simp)) hR hc (by omega) hl)
    (fun n W h => Length_any n W h) (enters_of Tryz.func89 (by kernel_rfl) rfl) (enters_of Tryz.func58 (by kernel_rfl) rfl)
  have e1 : Cs.readF (Cs.sumF Cs.lenU 0) Cs.lenF s = Cs.lnkF s := rfl
  rw [e1] at hrd
  obtain ⟨⟨n, er⟩, hr⟩ : ∃ q, Cs.lnkF s = q := ⟨_, rfl⟩
  rw [hr] at hrd ⊢
  rw [sv_def] at hrd ⊢
  have HB0 := Lib.hid hB0
  have HRD := Lib.hid hrd
  clear hB0 kU hrd e1 hr hE
  go_enter Tryz.func57, Tryz.ntmps57
  go_wp2_with (go_at_call 76; refine (sumM_any _ _).mono ?_; rintro e w' ⟨rfl, rfl⟩)
  refine HRD.out.mono ?_
  rintro e w1 ⟨rfl, hb1⟩
  have HB1 := Lib.hid (HB0.out.trans (hb1.mono HB0.out.size))
  clear hb1
  go_wp2_with fail
  go_ret2
  exact ⟨rfl, HB1.out⟩

end Go.Proofs.YtncdeogpmodoaaaGreatDoor
