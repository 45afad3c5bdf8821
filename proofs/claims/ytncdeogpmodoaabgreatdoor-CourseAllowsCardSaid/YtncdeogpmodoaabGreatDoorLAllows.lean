/-
  CourseAllows: the law's walk.
-/
import Derived.Test.YtncdeogpmodoaabGreatDoorLExact
import Derived.Test.YtncdeogpmodoaabGreatDoorLBounds
set_option linter.unusedVariables false
set_option linter.unusedSimpArgs false
namespace Go.Proofs.YtncdeogpmodoaabGreatDoor
open Go.RowKit
set_option maxRecDepth 100000

namespace Cs
theorem east_not5 (vs : List (Int × Int)) (cs : List Co) (dx : Int) : eastE vs cs dx ≠ 5 := by
  unfold eastE checkE varsE
  repeat' split
  all_goals decide
theorem fits_err {vs : List (Int × Int)} {c : Co} {dx : Int} (h : eastE vs [c] dx ≠ 0) (dy : Int) : fitsF vs c dx dy = (false, eastE vs [c] dx) := by
  have hs : stepE vs c dx dy = eastE vs [c] dx := by rw [stepE, if_pos h]
  rw [fitsF, misfitF, hs, if_pos h]
  simp [h]
end Cs

set_option maxHeartbeats 8000000 in
theorem courseAllows_any (A : Option Addr) (c : Nat) (vs : List (Int × Int)) (co : Cs.Co) (dx dy rec_ : Int) (w : World) (hE : Env w) (hR : Rd w w.heap.size 2 A vs.length (vcells vs)) (hn : vs.length ≤ 9223372036854775807) :
    Calls Tryz.prog 5 #[.slice A vs.length c, cval co, .int .i64 dx, .int .i64 dy, .int .i64 rec_] w fun e w' => e = .returned (.bool true) ∧ Below w.heap.size w w' := by
  have s0 := Lib.hid (Lw.new (c := co) hE hR)
  clear hE hR
  have hfew := few_any A c vs.length hn
  simp only [cval_def]
  rcases hd : decide ((vs.length : Int) ≤ 60) with _ | _
  · rw [hd] at hfew
    have FE := Lib.hid hfew
    clear hfew hd hn
    go_enter Tryz.func5, Tryz.ntmps5
    go_wp2_with fail
    refine (FE.out _).mono ?_
    rintro e w' ⟨rfl, rfl⟩
    go_wp2_with fail
    refine (measured_any _ s0.out.e).mono ?_
    rintro e w9 ⟨rfl, hb⟩
    have s9 := Lib.hid (s0.out.next hb)
    clear hb
    go_wp2_with fail
    go_ret
    exact ⟨rfl, s9.out.b⟩
  · rw [hd] at hfew
    have hl : vs.length ≤ 60 := by have := of_decide_eq_true hd; omega
    have FE := Lib.hid hfew
    clear hfew hd hn
    rcases hy0 : decide (dy < -100000) with _ | _
    case true =>
      go_enter Tryz.func5, Tryz.ntmps5
      go_wp2_with fail
      refine (FE.out _).mono ?_
      rintro e w' ⟨rfl, rfl⟩
      go_wp2_with fail
      refine (measured_any _ s0.out.e).mono ?_
      rintro e w9 ⟨rfl, hb⟩
      have s9 := Lib.hid (s0.out.next hb)
      clear hb
      go_wp2_with fail
      go_ret
      exact ⟨rfl, s9.out.b⟩
    rcases hy1 : decide (100000 < dy) with _ | _
    case true =>
      go_enter Tryz.func5, Tryz.ntmps5
      go_wp2_with fail
      refine (FE.out _).mono ?_
      rintro e w' ⟨rfl, rfl⟩
      go_wp2_with fail
      refine (measured_any _ s0.out.e).mono ?_
      rintro e w9 ⟨rfl, hb⟩
      have s9 := Lib.hid (s0.out.next hb)
      clear hb
      go_wp2_with fail
      go_ret
      exact ⟨rfl, s9.out.b⟩
    have r2 : -100000 ≤ dy := by have := of_decide_eq_false hy0; omega
    have r3 : dy ≤ 100000 := by have := of_decide_eq_false hy1; omega
    have b2 := fun W hs h => Fits_any A c vs co dx dy W hs h (by omega)
    simp only [cval_def] at b2
    by_cases he : Cs.eastE vs [co] dx = 0
    · rw [Cs.fits_of he r2 r3] at b2
      have hcom := Cs.comF_zero he
      have hrg := Cs.comG_range vs (dx := dx) [co] (-100000) 100000 (by decide) (by decide) (by decide)
      obtain ⟨⟨lo, hi, ok⟩, hr⟩ : ∃ r, Cs.comG vs dx (-100000, 100000) [co] = r := ⟨_, rfl⟩
      rw [hr] at hcom
      simp only [hr] at b2 hrg
      obtain ⟨q1, q2, q3, _⟩ := hrg
      rcases ok with _ | _
      · have b1 := fun W hs h => Bounds_no A c vs co dx 1 2 rec_ W hs h (by omega) (.inr (by rw [hcom]))
        rw [hcom] at b1
        simp only [cval_def, ne_eq, not_true_eq_false, if_false, Bool.false_and] at b1 b2
        have B1 := Lib.hid b1
        have B2 := Lib.hid b2
        clear b1 b2 hcom hr he hl q1 q2 q3
        go_enter Tryz.func5, Tryz.ntmps5
        go_wp2_with fail
        refine (FE.out _).mono ?_
        rintro e w' ⟨rfl, rfl⟩
        obtain ⟨c0, c1, c2, c3, c4, c5, cl⟩ := s0.out.cells
        go_wp2_with fail
        refine (B1.out _ s0.out.e.sn s0.out.rd).mono ?_
        rintro e w1 ⟨rfl, hb⟩
        have s1 := Lib.hid (s0.out.next hb)
        clear hb c0 c1 c2 c3 c4 c5 cl
        obtain ⟨c0, c1, c2, c3, c4, c5, cl⟩ := s1.out.cells
        go_wp2_with fail
        refine (B2.out _ s1.out.e.sn s1.out.rd).mono ?_
        rintro e w2 ⟨rfl, hb⟩
        have s2 := Lib.hid (s1.out.next hb)
        clear hb c0 c1 c2 c3 c4 c5 cl
        go_wp2_with fail
        refine (measured_any _ s2.out.e).mono ?_
        rintro e w3 ⟨rfl, hb⟩
        have s3 := Lib.hid (s2.out.next hb)
        clear hb
        go_wp2_with fail
        go_ret
        exact ⟨rfl, s3.out.b⟩
      · have b1 := fun W hs h => Bounds_yes A c vs co dx 1 2 rec_ lo hi W hs h (by omega) hcom (by omega)
        simp only [cval_def, Bool.true_and] at b1 b2
        have B1 := Lib.hid b1
        clear b1 hcom hr he hl
        by_cases h1 : dy ≤ hi
        · by_cases h2 : lo ≤ dy
          · have e1 : decide (5 + dy - 5 ≤ hi) = true := decide_eq_true (by omega)
            have e2 : decide (5 - (5 + dy) ≤ -lo) = true := decide_eq_true (by omega)
            rw [show (decide (lo ≤ dy) && decide (dy ≤ hi)) = true by rw [show decide (lo ≤ dy) = true from decide_eq_true (by omega), show decide (dy ≤ hi) = true from decide_eq_true (by omega)]; rfl] at b2
            have B2 := Lib.hid b2
            clear b2
            go_enter Tryz.func5, Tryz.ntmps5
            go_wp2_with fail
            refine (FE.out _).mono ?_
            rintro e w' ⟨rfl, rfl⟩
            obtain ⟨c0, c1, c2, c3, c4, c5, cl⟩ := s0.out.cells
            go_wp2_with fail
            refine (B1.out _ s0.out.e.sn s0.out.rd).mono ?_
            rintro e w1 ⟨ga, ta, rfl, _, hA, hb⟩
            have s1 := Lib.hid (s0.out.next hb)
            have K1 := Lib.hid hA
            clear hb hA c0 c1 c2 c3 c4 c5 cl
            obtain ⟨c0, c1, c2, c3, c4, c5, cl⟩ := s1.out.cells
            go_wp2_with fail
            refine (B2.out _ s1.out.e.sn s1.out.rd).mono ?_
            rintro e w2 ⟨rfl, hb⟩
            have s2 := Lib.hid (s1.out.next hb)
            have K2 := Lib.hid (K1.out.below hb K1.out.lt)
            clear hb c0 c1 c2 c3 c4 c5 cl
            have K3 := Lib.hid (K2.out.alloc (.cells #[.int .i64 0, .int .i64 5, .int .i64 (5 + dy)] 3))
            have L3 := Lib.hid (Bk.new w2 3 #[.int .i64 0, .int .i64 5, .int .i64 (5 + dy)])
            have s3 := Lib.hid (s2.out.alloc (.cells #[.int .i64 0, .int .i64 5, .int .i64 (5 + dy)] 3))
            go_wp2_with fail
            go_loopw [16, 17] (fun K I wr => ((I = .int .i64 0 ∧ K = .bool true) ∨ (I = .int .i64 1 ∧ K = .bool true) ∨ (I = .int .i64 2 ∧ K = .bool true)) ∧ Lw w A vs w.heap.size co wr ∧ Bk wr ga ta #[.int .i64 1, .int .i64 2, .int .i64 hi, .int .i64 rec_, .int .i64 2, .int .i64 1, .int .i64 (-lo), .int .i64 rec_] ∧ Bk wr w2.heap.size 3 #[.int .i64 0, .int .i64 5, .int .i64 (5 + dy)]) (fun _ I _ => 2 - (intOf I).toNat)
            case atStart => exact ⟨.inl ⟨rfl, rfl⟩, s3.out, K3.out, L3.out⟩
            case round =>
              clear s3 K3 L3 s2 K2 K1 s1
              obtain ⟨h3, hS, hA, hB⟩ := hrel
              have s2 := Lib.hid hS
              have KA := Lib.hid hA
              have KB := Lib.hid hB
              clear hS hA hB
              rcases h3 with ⟨rfl, rfl⟩ | ⟨rfl, rfl⟩ | ⟨rfl, rfl⟩
              · have a0 := (KA.out.cell 0).trans rfl
                have a1 := (KA.out.cell 1).trans rfl
                have a2 := (KA.out.cell 2).trans rfl
                have a3 := (KA.out.cell 3).trans rfl
                have al := KA.out.lt
                have b0 := (KB.out.cell 0).trans rfl
                have b1 := (KB.out.cell 1).trans rfl
                have b2 := (KB.out.cell 2).trans rfl
                have bl := KB.out.lt
                go_wp2_with fail
                go_quiet (fail)
                go_wp2_with fail
                go_quiet (fail)
                go_wp2_with fail
                go_roundw
                case rel => exact ⟨.inr (.inl ⟨by go_num, rfl⟩), s2.out.drewN _, KA.out, KB.out⟩
                case measure => simp [intOf]
              · have a4 := (KA.out.cell 4).trans rfl
                have a5 := (KA.out.cell 5).trans rfl
                have a6 := (KA.out.cell 6).trans rfl
                have a7 := (KA.out.cell 7).trans rfl
                have al := KA.out.lt
                have b0 := (KB.out.cell 0).trans rfl
                have b1 := (KB.out.cell 1).trans rfl
                have b2 := (KB.out.cell 2).trans rfl
                have bl := KB.out.lt
                go_wp2_with fail
                go_quiet (fail)
                go_wp2_with fail
                go_quiet (fail)
                go_wp2_with fail
                go_roundw
                case rel => exact ⟨.inr (.inr ⟨by go_num, rfl⟩), s2.out.drewN _, KA.out, KB.out⟩
                case measure => simp [intOf]
              · go_wp2_with fail
                refine (measured_any _ s2.out.e).mono ?_
                rintro e w9 ⟨rfl, hb⟩
                have s9 := Lib.hid (s2.out.next hb)
                clear hb
                go_wp2_with fail
                go_ret
                exact ⟨rfl, s9.out.b⟩
          · have e1 : decide (5 + dy - 5 ≤ hi) = true := decide_eq_true (by omega)
            have e2 : decide (5 - (5 + dy) ≤ -lo) = false := decide_eq_false (by omega)
            rw [show (decide (lo ≤ dy) && decide (dy ≤ hi)) = false by rw [show decide (lo ≤ dy) = false from decide_eq_false (by omega), show decide (dy ≤ hi) = true from decide_eq_true (by omega)]; rfl] at b2
            have B2 := Lib.hid b2
            clear b2
            go_enter Tryz.func5, Tryz.ntmps5
            go_wp2_with fail
            refine (FE.out _).mono ?_
            rintro e w' ⟨rfl, rfl⟩
            obtain ⟨c0, c1, c2, c3, c4, c5, cl⟩ := s0.out.cells
            go_wp2_with fail
            refine (B1.out _ s0.out.e.sn s0.out.rd).mono ?_
            rintro e w1 ⟨ga, ta, rfl, _, hA, hb⟩
            have s1 := Lib.hid (s0.out.next hb)
            have K1 := Lib.hid hA
            clear hb hA c0 c1 c2 c3 c4 c5 cl
            obtain ⟨c0, c1, c2, c3, c4, c5, cl⟩ := s1.out.cells
            go_wp2_with fail
            refine (B2.out _ s1.out.e.sn s1.out.rd).mono ?_
            rintro e w2 ⟨rfl, hb⟩
            have s2 := Lib.hid (s1.out.next hb)
            have K2 := Lib.hid (K1.out.below hb K1.out.lt)
            clear hb c0 c1 c2 c3 c4 c5 cl
            have K3 := Lib.hid (K2.out.alloc (.cells #[.int .i64 0, .int .i64 5, .int .i64 (5 + dy)] 3))
            have L3 := Lib.hid (Bk.new w2 3 #[.int .i64 0, .int .i64 5, .int .i64 (5 + dy)])
            have s3 := Lib.hid (s2.out.alloc (.cells #[.int .i64 0, .int .i64 5, .int .i64 (5 + dy)] 3))
            go_wp2_with fail
            go_loopw [16, 17] (fun K I wr => ((I = .int .i64 0 ∧ K = .bool true) ∨ (I = .int .i64 1 ∧ K = .bool true) ∨ (I = .int .i64 2 ∧ K = .bool false)) ∧ Lw w A vs w.heap.size co wr ∧ Bk wr ga ta #[.int .i64 1, .int .i64 2, .int .i64 hi, .int .i64 rec_, .int .i64 2, .int .i64 1, .int .i64 (-lo), .int .i64 rec_] ∧ Bk wr w2.heap.size 3 #[.int .i64 0, .int .i64 5, .int .i64 (5 + dy)]) (fun _ I _ => 2 - (intOf I).toNat)
            case atStart => exact ⟨.inl ⟨rfl, rfl⟩, s3.out, K3.out, L3.out⟩
            case round =>
              clear s3 K3 L3 s2 K2 K1 s1
              obtain ⟨h3, hS, hA, hB⟩ := hrel
              have s2 := Lib.hid hS
              have KA := Lib.hid hA
              have KB := Lib.hid hB
              clear hS hA hB
              rcases h3 with ⟨rfl, rfl⟩ | ⟨rfl, rfl⟩ | ⟨rfl, rfl⟩
              · have a0 := (KA.out.cell 0).trans rfl
                have a1 := (KA.out.cell 1).trans rfl
                have a2 := (KA.out.cell 2).trans rfl
                have a3 := (KA.out.cell 3).trans rfl
                have al := KA.out.lt
                have b0 := (KB.out.cell 0).trans rfl
                have b1 := (KB.out.cell 1).trans rfl
                have b2 := (KB.out.cell 2).trans rfl
                have bl := KB.out.lt
                go_wp2_with fail
                go_quiet (fail)
                go_wp2_with fail
                go_quiet (fail)
                go_wp2_with fail
                go_roundw
                case rel => exact ⟨.inr (.inl ⟨by go_num, rfl⟩), s2.out.drewN _, KA.out, KB.out⟩
                case measure => simp [intOf]
              · have a4 := (KA.out.cell 4).trans rfl
                have a5 := (KA.out.cell 5).trans rfl
                have a6 := (KA.out.cell 6).trans rfl
                have a7 := (KA.out.cell 7).trans rfl
                have al := KA.out.lt
                have b0 := (KB.out.cell 0).trans rfl
                have b1 := (KB.out.cell 1).trans rfl
                have b2 := (KB.out.cell 2).trans rfl
                have bl := KB.out.lt
                go_wp2_with fail
                go_quiet (fail)
                go_wp2_with fail
                go_quiet (fail)
                go_wp2_with fail
                go_roundw
                case rel => exact ⟨.inr (.inr ⟨by go_num, rfl⟩), s2.out.drewN _, KA.out, KB.out⟩
                case measure => simp [intOf]
              · go_wp2_with fail
                refine (measured_any _ s2.out.e).mono ?_
                rintro e w9 ⟨rfl, hb⟩
                have s9 := Lib.hid (s2.out.next hb)
                clear hb
                go_wp2_with fail
                go_ret
                exact ⟨rfl, s9.out.b⟩
        · by_cases h2 : lo ≤ dy
          · have e1 : decide (5 + dy - 5 ≤ hi) = false := decide_eq_false (by omega)
            have e2 : decide (5 - (5 + dy) ≤ -lo) = true := decide_eq_true (by omega)
            rw [show (decide (lo ≤ dy) && decide (dy ≤ hi)) = false by rw [show decide (lo ≤ dy) = true from decide_eq_true (by omega), show decide (dy ≤ hi) = false from decide_eq_false (by omega)]; rfl] at b2
            have B2 := Lib.hid b2
            clear b2
            go_enter Tryz.func5, Tryz.ntmps5
            go_wp2_with fail
            refine (FE.out _).mono ?_
            rintro e w' ⟨rfl, rfl⟩
            obtain ⟨c0, c1, c2, c3, c4, c5, cl⟩ := s0.out.cells
            go_wp2_with fail
            refine (B1.out _ s0.out.e.sn s0.out.rd).mono ?_
            rintro e w1 ⟨ga, ta, rfl, _, hA, hb⟩
            have s1 := Lib.hid (s0.out.next hb)
            have K1 := Lib.hid hA
            clear hb hA c0 c1 c2 c3 c4 c5 cl
            obtain ⟨c0, c1, c2, c3, c4, c5, cl⟩ := s1.out.cells
            go_wp2_with fail
            refine (B2.out _ s1.out.e.sn s1.out.rd).mono ?_
            rintro e w2 ⟨rfl, hb⟩
            have s2 := Lib.hid (s1.out.next hb)
            have K2 := Lib.hid (K1.out.below hb K1.out.lt)
            clear hb c0 c1 c2 c3 c4 c5 cl
            have K3 := Lib.hid (K2.out.alloc (.cells #[.int .i64 0, .int .i64 5, .int .i64 (5 + dy)] 3))
            have L3 := Lib.hid (Bk.new w2 3 #[.int .i64 0, .int .i64 5, .int .i64 (5 + dy)])
            have s3 := Lib.hid (s2.out.alloc (.cells #[.int .i64 0, .int .i64 5, .int .i64 (5 + dy)] 3))
            go_wp2_with fail
            go_loopw [16, 17] (fun K I wr => ((I = .int .i64 0 ∧ K = .bool true) ∨ (I = .int .i64 1 ∧ K = .bool false) ∨ (I = .int .i64 2 ∧ K = .bool false)) ∧ Lw w A vs w.heap.size co wr ∧ Bk wr ga ta #[.int .i64 1, .int .i64 2, .int .i64 hi, .int .i64 rec_, .int .i64 2, .int .i64 1, .int .i64 (-lo), .int .i64 rec_] ∧ Bk wr w2.heap.size 3 #[.int .i64 0, .int .i64 5, .int .i64 (5 + dy)]) (fun _ I _ => 2 - (intOf I).toNat)
            case atStart => exact ⟨.inl ⟨rfl, rfl⟩, s3.out, K3.out, L3.out⟩
            case round =>
              clear s3 K3 L3 s2 K2 K1 s1
              obtain ⟨h3, hS, hA, hB⟩ := hrel
              have s2 := Lib.hid hS
              have KA := Lib.hid hA
              have KB := Lib.hid hB
              clear hS hA hB
              rcases h3 with ⟨rfl, rfl⟩ | ⟨rfl, rfl⟩ | ⟨rfl, rfl⟩
              · have a0 := (KA.out.cell 0).trans rfl
                have a1 := (KA.out.cell 1).trans rfl
                have a2 := (KA.out.cell 2).trans rfl
                have a3 := (KA.out.cell 3).trans rfl
                have al := KA.out.lt
                have b0 := (KB.out.cell 0).trans rfl
                have b1 := (KB.out.cell 1).trans rfl
                have b2 := (KB.out.cell 2).trans rfl
                have bl := KB.out.lt
                go_wp2_with fail
                go_quiet (fail)
                go_wp2_with fail
                go_quiet (fail)
                go_wp2_with fail
                go_roundw
                case rel => exact ⟨.inr (.inl ⟨by go_num, rfl⟩), s2.out.drewN _, KA.out, KB.out⟩
                case measure => simp [intOf]
              · have a4 := (KA.out.cell 4).trans rfl
                have a5 := (KA.out.cell 5).trans rfl
                have a6 := (KA.out.cell 6).trans rfl
                have a7 := (KA.out.cell 7).trans rfl
                have al := KA.out.lt
                have b0 := (KB.out.cell 0).trans rfl
                have b1 := (KB.out.cell 1).trans rfl
                have b2 := (KB.out.cell 2).trans rfl
                have bl := KB.out.lt
                go_wp2_with fail
                go_quiet (fail)
                go_wp2_with fail
                go_quiet (fail)
                go_wp2_with fail
                go_roundw
                case rel => exact ⟨.inr (.inr ⟨by go_num, rfl⟩), s2.out.drewN _, KA.out, KB.out⟩
                case measure => simp [intOf]
              · go_wp2_with fail
                refine (measured_any _ s2.out.e).mono ?_
                rintro e w9 ⟨rfl, hb⟩
                have s9 := Lib.hid (s2.out.next hb)
                clear hb
                go_wp2_with fail
                go_ret
                exact ⟨rfl, s9.out.b⟩
          · exact absurd q3 (by omega)
    · have hcom := Cs.comF_err1 he
      have h5 := Cs.east_not5 vs [co] dx
      rw [Cs.fits_err he] at b2
      have b1 := fun W hs h => Bounds_no A c vs co dx 1 2 rec_ W hs h (by omega) (.inr (by rw [hcom]))
      rw [hcom] at b1
      dsimp only at b1 b2
      rw [if_pos he] at b1
      obtain ⟨e, hee⟩ : ∃ e, Cs.eastE vs [co] dx = e := ⟨_, rfl⟩
      rw [hee] at b1 b2 he h5
      simp only [cval_def] at b1
      have he0 : (e == 0) = false := by simp [he]
      have he1 : (e != 0) = true := by simp [he]
      have he5 : (e == 5) = false := by simp [h5]
      have B1 := Lib.hid b1
      have B2 := Lib.hid b2
      clear b1 b2 hcom hee he h5 hl
      go_enter Tryz.func5, Tryz.ntmps5
      go_wp2_with fail
      refine (FE.out _).mono ?_
      rintro e w' ⟨rfl, rfl⟩
      obtain ⟨c0, c1, c2, c3, c4, c5, cl⟩ := s0.out.cells
      go_wp2_with fail
      refine (B1.out _ s0.out.e.sn s0.out.rd).mono ?_
      rintro e w1 ⟨rfl, hb⟩
      have s1 := Lib.hid (s0.out.next hb)
      clear hb c0 c1 c2 c3 c4 c5 cl
      obtain ⟨c0, c1, c2, c3, c4, c5, cl⟩ := s1.out.cells
      go_wp2_with fail
      refine (B2.out _ s1.out.e.sn s1.out.rd).mono ?_
      rintro e w2 ⟨rfl, hb⟩
      have s2 := Lib.hid (s1.out.next hb)
      clear hb c0 c1 c2 c3 c4 c5 cl
      go_wp2_with fail
      refine (measured_any _ s2.out.e).mono ?_
      rintro e w3 ⟨rfl, hb⟩
      have s3 := Lib.hid (s2.out.next hb)
      clear hb
      go_wp2_with fail
      go_ret
      exact ⟨rfl, s3.out.b⟩

end Go.Proofs.YtncdeogpmodoaabGreatDoor
