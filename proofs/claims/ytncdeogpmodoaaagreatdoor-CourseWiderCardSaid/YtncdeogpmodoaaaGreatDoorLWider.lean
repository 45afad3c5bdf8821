/-
  CourseWider: the law's walk.
-/
import Derived.Test.YtncdeogpmodoaaaGreatDoorLaw
set_option linter.unusedVariables false
set_option linter.unusedSimpArgs false
namespace Go.Proofs.YtncdeogpmodoaaaGreatDoor
open Go.RowKit
set_option maxRecDepth 100000

namespace Cs
theorem stepE_needle (vs : List (Int × Int)) {c : Co} {k dx dy : Int} (h : courseOk c = true) (h0 : 0 ≤ k) (h1 : k ≤ 30) : stepE vs { c with n := k } dx dy = stepE vs c dx dy := by
  have := needle_ok h h0 h1
  simp only [stepE, eastE, checkE, List.all_cons, List.all_nil, h, this]
  rfl
theorem needF_no {vs : List (Int × Int)} {c : Co} {dx dy : Int} (h : stepE vs c dx dy ≠ 0) : needF vs c dx dy = ((0, false), stepE vs c dx dy) := by rw [needF, if_pos h]
theorem needF_yes {vs : List (Int × Int)} {c : Co} {dx dy : Int} (h : stepE vs c dx dy = 0) : needF vs c dx dy = (needG vs c dx dy 31 0, 0) := by rw [needF, if_neg (by rw [h]; simp)]
theorem fits_needle {vs : List (Int × Int)} {c : Co} {dx dy : Int} (h : stepE vs c dx dy = 0) {k : Int} (h0 : 0 ≤ k) (h1 : k ≤ 30) :
    fitsF vs { c with n := k } dx dy = ((needG vs c dx dy 31 0).2 && decide ((needG vs c dx dy 31 0).1 ≤ k), 0) := by
  obtain ⟨g1, g2, g3, g4, g5, g6⟩ := stepE_zero h
  have hs := needG_spec vs g1 dx dy 31 0 (by decide) (by decide)
  have hm : misfitF vs { c with n := k } dx dy = (misF vs { c with n := k } dx dy, 0) := by
    rw [misfitF, stepE_needle vs g1 h0 h1, h, if_neg (by simp)]
  rw [fitsF, hm]
  simp only [decide_true, Bool.true_and, Prod.mk.injEq, and_true]
  rw [Bool.eq_iff_iff]
  simp only [decide_eq_true_eq, Bool.and_eq_true]
  exact hs.2.2 k h0 h1
end Cs

set_option maxHeartbeats 8000000 in
theorem courseWider_any (A : Option Addr) (c : Nat) (vs : List (Int × Int)) (co : Cs.Co) (dx dy : Int) (w : World) (hE : Env w) (hR : Rd w w.heap.size 2 A vs.length (vcells vs)) (hn : vs.length ≤ 9223372036854775807) :
    Calls Tryz.prog 14 #[.slice A vs.length c, cval co, .int .i64 dx, .int .i64 dy] w fun e w' => e = .returned (.bool true) ∧ Below w.heap.size w w' := by
  have s0 := Lib.hid (Lw.new (c := co) hE hR)
  clear hE hR
  by_cases hf : vs.length ≤ 60
  · have hd : decide ((vs.length : Int) ≤ 60) = true := decide_eq_true (by omega)
    have hfew := few_any A c vs.length hn
    rw [hd] at hfew
    have FE := Lib.hid hfew
    have b1 := fun W hs h => Needed_any A c vs co dx dy W hs h (by omega)
    have b2 := fun x W hs h => Fits_any A c vs x dx dy W hs h (by omega)
    simp only [cval_def] at b1 b2 ⊢
    by_cases he : Cs.stepE vs co dx dy = 0
    · rw [Cs.needF_yes he] at b1
      have hfit := fun k h0 h1 => Cs.fits_needle he (k := k) h0 h1
      obtain ⟨q1, q2, _⟩ := Cs.needG_spec vs (Cs.stepE_zero he).1 dx dy 31 0 (by decide) (by decide)
      obtain ⟨⟨n, is⟩, hr⟩ : ∃ r, Cs.needG vs co dx dy 31 0 = r := ⟨_, rfl⟩
      rw [hr] at b1 q1 q2
      rw [hr] at hfit
      dsimp only at b1 q1 q2 hfit
      have b3 : ∀ (k : Int), 0 ≤ k → k ≤ 30 → ∀ W, Sn W → Rd W W.heap.size 2 A vs.length (vcells vs) → Calls Tryz.prog 41 #[.slice A vs.length c, .agg #[.int .i64 co.b, .int .i64 k, .int .i64 co.l, .int .i64 co.y, .int .i64 co.w, .int .i64 co.s], .int .i64 dx, .int .i64 dy] W fun e w' => e = .returned (.tuple #[.bool (is && decide (n ≤ k)), .int .i64 0]) ∧ Below W.heap.size W w' := fun k h0 h1 W hs h => by
        have := b2 { co with n := k } W hs h
        rw [hfit k h0 h1] at this
        exact this
      have B1 := Lib.hid b1
      have B3 := Lib.hid b3
      clear b1 b2 b3 hfit hfew hd hf hn hr he
      rcases is with _ | _
      · have q := q2 rfl
        subst q
        clear q1 q2
        go_enter Tryz.func14, Tryz.ntmps14
        go_wp2_with fail
        refine (FE.out _).mono ?_
        rintro e w' ⟨rfl, rfl⟩
        obtain ⟨c0, c1, c2, c3, c4, c5, cl⟩ := s0.out.cells
        go_wp2_with fail
        refine (B1.out _ s0.out.e.sn s0.out.rd).mono ?_
        rintro e w1 ⟨rfl, hb⟩
        have s1 := Lib.hid (s0.out.next hb)
        clear hb c0 c1 c2 c3 c4 c5 cl
        go_wp2_with fail
        go_loopw [12] (fun I wr => ∃ k : Nat, k ≤ 31 ∧ I = .int .i64 k ∧ Lw w A vs w.heap.size co wr) (fun I _ => 31 - (intOf I).toNat)
        case atStart => exact ⟨0, by omega, rfl, s1.out⟩
        case round =>
          clear s1 s0
          obtain ⟨k, hk, rfl, hS⟩ := hrel
          have s1 := Lib.hid hS
          clear hS
          by_cases hlt : k < 31
          · have b := B3.out (k : Int) (by omega) (by omega)
            clear B3
            obtain ⟨c0, c1, c2, c3, c4, c5, cl⟩ := s1.out.cells
            have s3 := s1.out.alloc (.cells #[.int .i64 co.b, .int .i64 (k : Int), .int .i64 co.l, .int .i64 co.y, .int .i64 co.w, .int .i64 co.s] 29)
            have S3 := Lib.hid s3
            clear s3
            simp only [Bool.false_and] at b
            have B := Lib.hid b
            clear b
            go_wp2_with fail
            refine (B.out _ S3.out.e.sn S3.out.rd).mono ?_
            rintro e w2 ⟨rfl, hb⟩
            have s4 := Lib.hid (S3.out.next hb)
            clear hb c0 c1 c2 c3 c4 c5 cl
            go_wp2_with fail
            go_roundw
            case rel => exact ⟨k + 1, by omega, by go_num, s4.out⟩
            case measure => simp [intOf]; omega
          · obtain rfl : k = 31 := by omega
            clear B3 B1
            go_wp2_with fail
            refine (measured_any _ s1.out.e).mono ?_
            rintro e w2 ⟨rfl, hb⟩
            have s4 := Lib.hid (s1.out.next hb)
            clear hb
            go_wp2_with fail
            go_ret
            exact ⟨rfl, s4.out.b⟩
      · have q := q1 rfl
        obtain ⟨q3, q4⟩ := q
        clear q1 q2
        go_enter Tryz.func14, Tryz.ntmps14
        go_wp2_with fail
        refine (FE.out _).mono ?_
        rintro e w' ⟨rfl, rfl⟩
        obtain ⟨c0, c1, c2, c3, c4, c5, cl⟩ := s0.out.cells
        go_wp2_with fail
        refine (B1.out _ s0.out.e.sn s0.out.rd).mono ?_
        rintro e w1 ⟨rfl, hb⟩
        have s1 := Lib.hid (s0.out.next hb)
        clear hb c0 c1 c2 c3 c4 c5 cl
        go_wp2_with fail
        go_loopw [12] (fun I wr => ∃ k : Nat, k ≤ 31 ∧ I = .int .i64 k ∧ Lw w A vs w.heap.size co wr) (fun I _ => 31 - (intOf I).toNat)
        case atStart => exact ⟨0, by omega, rfl, s1.out⟩
        case round =>
          clear s1 s0
          obtain ⟨k, hk, rfl, hS⟩ := hrel
          have s1 := Lib.hid hS
          clear hS
          by_cases hlt : k < 31
          · have b := B3.out (k : Int) (by omega) (by omega)
            clear B3
            obtain ⟨c0, c1, c2, c3, c4, c5, cl⟩ := s1.out.cells
            have s3 := s1.out.alloc (.cells #[.int .i64 co.b, .int .i64 (k : Int), .int .i64 co.l, .int .i64 co.y, .int .i64 co.w, .int .i64 co.s] 29)
            have S3 := Lib.hid s3
            clear s3
            by_cases hnk : n ≤ (k : Int)
            · rw [show decide (n ≤ (k : Int)) = true from decide_eq_true hnk] at b
              simp only [Bool.and_true] at b
              have hnd : decide (n ≤ (k : Int)) = true := decide_eq_true hnk
              have B := Lib.hid b
              clear b
              go_wp2_with fail
              refine (B.out _ S3.out.e.sn S3.out.rd).mono ?_
              rintro e w2 ⟨rfl, hb⟩
              have s4 := Lib.hid (S3.out.next hb)
              clear hb c0 c1 c2 c3 c4 c5 cl
              go_wp2_with fail
              go_roundw
              case rel => exact ⟨k + 1, by omega, by go_num, s4.out⟩
              case measure => simp [intOf]; omega
            · rw [show decide (n ≤ (k : Int)) = false from decide_eq_false hnk] at b
              simp only [Bool.and_false] at b
              have hnd : decide (n ≤ (k : Int)) = false := decide_eq_false hnk
              have B := Lib.hid b
              clear b
              go_wp2_with fail
              refine (B.out _ S3.out.e.sn S3.out.rd).mono ?_
              rintro e w2 ⟨rfl, hb⟩
              have s4 := Lib.hid (S3.out.next hb)
              clear hb c0 c1 c2 c3 c4 c5 cl
              go_wp2_with fail
              go_roundw
              case rel => exact ⟨k + 1, by omega, by go_num, s4.out⟩
              case measure => simp [intOf]; omega
          · obtain rfl : k = 31 := by omega
            clear B3 B1
            go_wp2_with fail
            refine (measured_any _ s1.out.e).mono ?_
            rintro e w2 ⟨rfl, hb⟩
            have s4 := Lib.hid (s1.out.next hb)
            clear hb
            go_wp2_with fail
            go_ret
            exact ⟨rfl, s4.out.b⟩
    · rw [Cs.needF_no he] at b1
      dsimp only at b1
      obtain ⟨e, hee⟩ : ∃ e, Cs.stepE vs co dx dy = e := ⟨_, rfl⟩
      rw [hee] at b1 he
      have B1 := Lib.hid b1
      have hne : (e != 0) = true := by simp [he]
      clear b1 b2 hfew hd hf hn hee he
      go_enter Tryz.func14, Tryz.ntmps14
      go_wp2_with fail
      refine (FE.out _).mono ?_
      rintro e w' ⟨rfl, rfl⟩
      obtain ⟨c0, c1, c2, c3, c4, c5, cl⟩ := s0.out.cells
      go_wp2_with fail
      refine (B1.out _ s0.out.e.sn s0.out.rd).mono ?_
      rintro e w1 ⟨rfl, hb⟩
      have s1 := Lib.hid (s0.out.next hb)
      clear hb c0 c1 c2 c3 c4 c5 cl
      go_wp2_with fail
      refine (measured_any _ s1.out.e).mono ?_
      rintro e w2 ⟨rfl, hb⟩
      have s2 := Lib.hid (s1.out.next hb)
      clear hb
      go_wp2_with fail
      go_ret
      exact ⟨rfl, s2.out.b⟩
  · have hd : decide ((vs.length : Int) ≤ 60) = false := decide_eq_false (by omega)
    have hfew := few_any A c vs.length hn
    rw [hd] at hfew
    simp only [cval_def]
    have FE := Lib.hid hfew
    clear hfew hd hf hn
    go_enter Tryz.func14, Tryz.ntmps14
    go_wp2_with fail
    refine (FE.out _).mono ?_
    rintro e w' ⟨rfl, rfl⟩
    go_wp2_with fail
    refine (measured_any _ s0.out.e).mono ?_
    rintro e w1 ⟨rfl, hb⟩
    have s1 := Lib.hid (s0.out.next hb)
    clear hb
    go_wp2_with fail
    go_ret
    exact ⟨rfl, s1.out.b⟩

end Go.Proofs.YtncdeogpmodoaaaGreatDoor
