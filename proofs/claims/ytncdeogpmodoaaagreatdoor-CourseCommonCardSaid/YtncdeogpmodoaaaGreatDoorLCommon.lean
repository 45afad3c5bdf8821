/-
  CourseCommon: the law's walk.
-/
import Derived.Test.YtncdeogpmodoaaaGreatDoorRcom
import Derived.Test.YtncdeogpmodoaaaGreatDoorLaw
set_option linter.unusedVariables false
set_option linter.unusedSimpArgs false
namespace Go.Proofs.YtncdeogpmodoaaaGreatDoor
open Go.RowKit
set_option maxRecDepth 100000

/-- What a law with variations and courses has found, between two calls. -/
structure Lc (w : World) (A : Option Addr) (vs : List (Int × Int)) (A2 : Option Addr) (cs : List Cs.Co) (W : World) : Prop where
  b : Below w.heap.size w W
  e : Env W
  r : Rd W w.heap.size 2 A vs.length (vcells vs)
  q : Rd W w.heap.size 6 A2 cs.length (ccells cs)

section
variable {w W W' : World} {A A2 : Option Addr} {vs : List (Int × Int)} {cs : List Cs.Co}
theorem Lc.next (h : Lc w A vs A2 cs W) (hb : Below W.heap.size W W') : Lc w A vs A2 cs W' :=
  ⟨h.b.trans (hb.mono h.b.size), h.e.step hb, h.r.below hb h.b.size, h.q.below hb h.b.size⟩
theorem Lc.rd (h : Lc w A vs A2 cs W) : Rd W W.heap.size 2 A vs.length (vcells vs) := h.r.more h.b.size
theorem Lc.rq (h : Lc w A vs A2 cs W) : Rd W W.heap.size 6 A2 cs.length (ccells cs) := h.q.more h.b.size
end

set_option maxHeartbeats 8000000 in
theorem courseCommon_any (A A2 : Option Addr) (c c2 : Nat) (vs : List (Int × Int)) (cs : List Cs.Co) (dx : Int) (w : World) (hE : Env w) (hR : Rd w w.heap.size 2 A vs.length (vcells vs)) (hn : vs.length ≤ 9223372036854775807)
    (hC : Rd w w.heap.size 6 A2 cs.length (ccells cs)) (hm : cs.length ≤ 9223372036854775807) :
    Calls Tryz.prog 10 #[.slice A vs.length c, .slice A2 cs.length c2, .int .i64 dx] w fun e w' => e = .returned (.bool true) ∧ Below w.heap.size w w' := by
  have s0 := Lib.hid (show Lc w A vs A2 cs w from ⟨Below.refl _ _, hE, hR, hC⟩)
  clear hE hR hC
  by_cases hf : vs.length ≤ 60
  · have hd : decide ((vs.length : Int) ≤ 60) = true := decide_eq_true (by omega)
    have hfew := few_any A c vs.length hn
    rw [hd] at hfew
    have FE := Lib.hid hfew
    by_cases hg : cs.length ≤ 60
    · have b1 := fun W hs h q => Common_any A A2 c c2 vs cs dx W hs h (by omega) q (by omega)
      have b2 := fun W h q => rCommon_any A A2 c c2 vs cs dx W h (by omega) q (by omega)
      have hd2 : decide (60 < (cs.length : Int)) = false := decide_eq_false (by omega)
      obtain ⟨a, ha⟩ : ∃ a, (Cs.comF vs cs dx).1.1 = a := ⟨_, rfl⟩
      obtain ⟨b, hb⟩ : ∃ b, (Cs.comF vs cs dx).1.2.1 = b := ⟨_, rfl⟩
      obtain ⟨o, ho⟩ : ∃ o, (Cs.comF vs cs dx).1.2.2 = o := ⟨_, rfl⟩
      obtain ⟨e, he⟩ : ∃ e, (Cs.comF vs cs dx).2 = e := ⟨_, rfl⟩
      simp only [ha, hb, ho, he] at b1 b2
      have B1 := Lib.hid b1
      have B2 := Lib.hid b2
      clear ha hb ho he b1 b2 hfew hd hf hn hg
      go_enter Tryz.func10, Tryz.ntmps10
      go_wp2_with fail
      refine (FE.out _).mono ?_
      rintro e w' ⟨rfl, rfl⟩
      go_wp2_with fail
      refine (B1.out _ s0.out.e.sn s0.out.rd s0.out.rq).mono ?_
      rintro e w1 ⟨rfl, hb⟩
      have s1 := Lib.hid (s0.out.next hb)
      clear hb
      go_wp2_with fail
      refine (B2.out _ s1.out.rd s1.out.rq).mono ?_
      rintro e w2 ⟨rfl, hb⟩
      have s2 := Lib.hid (s1.out.next hb)
      clear hb
      go_wp2_with fail
      refine (measured_any _ s2.out.e).mono ?_
      rintro e w3 ⟨rfl, hb⟩
      have s3 := Lib.hid (s2.out.next hb)
      clear hb
      go_wp2_with fail
      go_ret
      exact ⟨rfl, s3.out.b⟩
    · have hd2 : decide (60 < (cs.length : Int)) = true := decide_eq_true (by omega)
      clear hfew hd hf hn hg
      go_enter Tryz.func10, Tryz.ntmps10
      go_wp2_with fail
      refine (FE.out _).mono ?_
      rintro e w' ⟨rfl, rfl⟩
      go_wp2_with fail
      refine (measured_any _ s0.out.e).mono ?_
      rintro e w1 ⟨rfl, hb⟩
      have s1 := Lib.hid (s0.out.next hb)
      clear hb
      go_wp2_with fail
      go_ret
      exact ⟨rfl, s1.out.b⟩
  · have hd : decide ((vs.length : Int) ≤ 60) = false := decide_eq_false (by omega)
    have hfew := few_any A c vs.length hn
    rw [hd] at hfew
    have FE := Lib.hid hfew
    clear hfew hd hf hn
    go_enter Tryz.func10, Tryz.ntmps10
    go_wp2_with fail
    refine (FE.out _).mono ?_
    rintro e w' ⟨rfl, rfl⟩
    go_wp2_with fail
    refine (measured_any _ s0.out.e).mono ?_
    rintro e w1 ⟨rfl, hb⟩
    have s1 := Lib.hid (s0.out.next hb)
    clear hb
    go_wp2_with fail
    go_ret
    exact ⟨rfl, s1.out.b⟩

end Go.Proofs.YtncdeogpmodoaaaGreatDoor
