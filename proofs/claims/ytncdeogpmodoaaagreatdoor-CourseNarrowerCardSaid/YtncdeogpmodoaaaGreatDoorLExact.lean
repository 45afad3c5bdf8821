/-
  CourseExact: the law's walk.
-/
import Derived.Test.YtncdeogpmodoaaaGreatDoorLaw
set_option linter.unusedVariables false
set_option linter.unusedSimpArgs false
namespace Go.Proofs.YtncdeogpmodoaaaGreatDoor
open Go.RowKit
set_option maxRecDepth 100000

namespace Cs
theorem comF_err1 {vs : List (Int × Int)} {c : Co} {dx : Int} (h : eastE vs [c] dx ≠ 0) : comF vs [c] dx = ((0, 0, false), eastE vs [c] dx) := by
  rw [comF, if_neg (by simp), if_neg (by simp), if_pos h]
theorem comF_zero {vs : List (Int × Int)} {c : Co} {dx : Int} (h : eastE vs [c] dx = 0) : comF vs [c] dx = (comG vs dx (-100000, 100000) [c], 0) := by
  rw [comF, if_neg (by simp), if_neg (by simp), if_neg (by rw [h]; simp)]
theorem east_ok {vs : List (Int × Int)} {c : Co} {dx : Int} (h : eastE vs [c] dx = 0) : courseOk c = true ∧ dx ≠ 0 ∧ -100000 ≤ dx ∧ dx ≤ 100000 := by
  have hs : stepE vs c dx 0 = 0 := by rw [stepE, if_neg (by rw [h]; simp), if_neg (by decide)]
  obtain ⟨g1, g2, g3, g4, _⟩ := stepE_zero hs
  exact ⟨g1, g2, g3, g4⟩
theorem fits_of {vs : List (Int × Int)} {c : Co} {dx : Int} (h : eastE vs [c] dx = 0) {y : Int} (h0 : -100000 ≤ y) (h1 : y ≤ 100000) :
    fitsF vs c dx y = ((comG vs dx (-100000, 100000) [c]).2.2 && (decide ((comG vs dx (-100000, 100000) [c]).1 ≤ y) && decide (y ≤ (comG vs dx (-100000, 100000) [c]).2.1)), 0) := by
  obtain ⟨g1, g2, g3, g4⟩ := east_ok h
  have hi := comG_iff vs g2 g3 g4 [c] (by simpa using g1) (-100000) 100000 (by decide) (by decide) (by decide) h0 h1
  have hs : stepE vs c dx y = 0 := by rw [stepE, if_neg (by rw [h]; simp), if_neg (by omega)]
  have hm : misfitF vs c dx y = (misF vs c dx y, 0) := by rw [misfitF, if_neg (by rw [hs]; simp)]
  rw [fitsF, hm]
  simp only [decide_true, Bool.true_and, Prod.mk.injEq, and_true]
  rw [Bool.eq_iff_iff]
  simp only [decide_eq_true_eq, Bool.and_eq_true]
  rw [← hi]
  simp only [List.mem_singleton, forall_eq]
  constructor
  · intro e; exact ⟨⟨h0, h1⟩, e⟩
  · intro e; exact e.2
end Cs

set_option maxHeartbeats 8000000 in
theorem courseExact_any (A : Option Addr) (c : Nat) (vs : List (Int × Int)) (co : Cs.Co) (dx dy : Int) (w : World) (hE : Env w) (hR : Rd w w.heap.size 2 A vs.length (vcells vs)) (hn : vs.length ≤ 9223372036854775807) (hdy : -9223372036854775808 ≤ dy ∧ dy ≤ 9223372036854775807) :
    Calls Tryz.prog 12 #[.slice A vs.length c, cval co, .int .i64 dx, .int .i64 dy] w fun e w' => e = .returned (.bool true) ∧ Below w.heap.size w w' := by
  have s0 := Lib.hid (Lw.new (c := co) hE hR)
  clear hE hR
  by_cases hf : vs.length ≤ 60
  · have hd : decide ((vs.length : Int) ≤ 60) = true := decide_eq_true (by omega)
    have hfew := few_any A c vs.length hn
    rw [hd] at hfew
    have FE := Lib.hid hfew
    have b1 := fun W hs h => Interval_any A c vs co dx W hs h (by omega)
    have b2 := fun y W hs h => Fits_any A c vs co dx y W hs h (by omega)
    simp only [cval_def] at b1 b2 ⊢
    by_cases he : Cs.eastE vs [co] dx = 0
    · rw [Cs.comF_zero he] at b1
      have hfit := fun y h0 h1 => Cs.fits_of he (y := y) h0 h1
      have hrg := Cs.comG_range vs (dx := dx) [co] (-100000) 100000 (by decide) (by decide) (by decide)
      obtain ⟨⟨lo, hi, ok⟩, hr⟩ : ∃ r, Cs.comG vs dx (-100000, 100000) [co] = r := ⟨_, rfl⟩
      simp only [hr] at b1 hrg hfit
      obtain ⟨r1, r2, r3, r4⟩ := hrg
      have b3 : ∀ (y : Int), -100000 ≤ y → y ≤ 100000 → ∀ W, Sn W → Rd W W.heap.size 2 A vs.length (vcells vs) → Calls Tryz.prog 41 #[.slice A vs.length c, .agg #[.int .i64 co.b, .int .i64 co.n, .int .i64 co.l, .int .i64 co.y, .int .i64 co.w, .int .i64 co.s], .int .i64 dx, .int .i64 y] W fun e w' => e = .returned (.tuple #[.bool (ok && (decide (lo ≤ y) && decide (y ≤ hi))), .int .i64 0]) ∧ Below W.heap.size W w' := fun y h0 h1 W hs h => by
        have := b2 y W hs h
        rw [hfit y h0 h1] at this
        exact this
      have B1 := Lib.hid b1
      have B3 := Lib.hid b3
      clear b1 b2 b3 hfit hfew hd hf hn hr he
      by_cases hy : -100000 ≤ dy ∧ dy ≤ 100000
      · have hd1 : decide (dy < -100000) = false := decide_eq_false (by omega)
        have hd2 : decide (100000 < dy) = false := decide_eq_false (by omega)
        have hd3 : decide (lo < -100000) = false := decide_eq_false (by omega)
        have hd4 : decide (100000 < hi) = false := decide_eq_false (by omega)
        have hd5 : decide (hi < lo) = false := decide_eq_false (by omega)
        rcases ok with _ | _
        · obtain ⟨rfl, rfl⟩ := r4 rfl
          clear r4
          go_enter Tryz.func12, Tryz.ntmps12
          go_wp2_with fail
          refine (FE.out _).mono ?_
          rintro e w' ⟨rfl, rfl⟩
          obtain ⟨c0, c1, c2, c3, c4, c5, cl⟩ := s0.out.cells
          go_wp2_with fail
          refine (B1.out _ s0.out.e.sn s0.out.rd).mono ?_
          rintro e w1 ⟨rfl, hb⟩
          have s1 := Lib.hid (s0.out.next hb)
          clear hb c0 c1 c2 c3 c4 c5 cl
          go_wp2_with fail
          obtain ⟨ys, hys⟩ : ∃ ys : List Int, [dy, (0 : Int) - 1, (0 : Int), (0 : Int), (0 : Int) + 1, ((0 : Int) + (0 : Int)).tdiv 2] = ys := ⟨_, rfl⟩
          have hyl : ys.length = 6 := by rw [← hys]; rfl
          have HYS := Lib.hid hys
          have HYL := Lib.hid hyl
          clear hys hyl
          go_loopw [14, 15, 16, 17] (fun I _ _ _ wr => ∃ k : Nat, k ≤ 6 ∧ I = .int .i64 k ∧ Lw w A vs w.heap.size co wr ∧ Bk wr w1.heap.size 3 (ys.map (Value.int .i64)).toArray) (fun I _ _ _ _ => 6 - (intOf I).toNat)
          case atStart =>
            refine ⟨0, by omega, rfl, s1.out.alloc _, ?_⟩
            rw [← HYS.out]
            exact Bk.new w1 _ _
          case round =>
            clear HYS
            obtain ⟨k, hk, rfl, hS, hK⟩ := hrel
            have s2 := Lib.hid hS
            have K2 := Lib.hid hK
            clear hS
            by_cases hlt : k < 6
            · have e0 := hK.cell k
              rw [List.getElem?_toArray, List.getElem?_map, List.getElem?_eq_getElem (by rw [HYL.out]; exact hlt), Option.map_some] at e0
              have bl := hK.lt
              obtain ⟨y, hyy⟩ : ∃ y, ys[k]'(by rw [HYL.out]; exact hlt) = y := ⟨_, rfl⟩
              rw [hyy] at e0
              clear hyy hK
              by_cases hy : -100000 ≤ y ∧ y ≤ 100000
              · have hd1 : decide (y < -100000) = false := decide_eq_false (by omega)
                have hd2 : decide (100000 < y) = false := decide_eq_false (by omega)
                have b := B3.out y hy.1 hy.2
                clear B3 hy
                obtain ⟨c0, c1, c2, c3, c4, c5, cl⟩ := s2.out.cells
                simp only [Bool.false_and] at b
                have B := Lib.hid b
                clear b
                go_wp2_with fail
                refine (B.out _ s2.out.e.sn s2.out.rd).mono ?_
                rintro e w2 ⟨rfl, hb⟩
                have s3 := Lib.hid (s2.out.next hb)
                have K3 := Lib.hid (K2.out.below hb K2.out.lt)
                clear hb c0 c1 c2 c3 c4 c5 cl e0 bl
                go_wp2_with fail
                go_roundw
                case rel => exact ⟨k + 1, by omega, by go_num, s3.out, K3.out⟩
                case measure => simp [intOf]; omega
              · have ht : (decide (y < -100000) || decide (100000 < y)) = true := by simp; omega
                by_cases h1 : y < -100000
                · have hd1 : decide (y < -100000) = true := decide_eq_true h1
                  clear B3 hy ht h1
                  go_wp2_with fail
                  go_roundw
                  case rel => exact ⟨k + 1, by omega, by go_num, s2.out, K2.out⟩
                  case measure => simp [intOf]; omega
                · have hd1 : decide (y < -100000) = false := decide_eq_false h1
                  have hd2 : decide (100000 < y) = true := decide_eq_true (by omega)
                  clear B3 hy ht h1
                  go_wp2_with fail
                  go_roundw
                  case rel => exact ⟨k + 1, by omega, by go_num, s2.out, K2.out⟩
                  case measure => simp [intOf]; omega
            · obtain rfl : k = 6 := by omega
              clear B3 B1 hK
              go_wp2_with fail
              refine (measured_any _ s2.out.e).mono ?_
              rintro e w9 ⟨rfl, hb⟩
              have s9 := Lib.hid (s2.out.next hb)
              clear hb
              go_wp2_with fail
              go_ret
              exact ⟨rfl, s9.out.b⟩
        · go_enter Tryz.func12, Tryz.ntmps12
          go_wp2_with fail
          refine (FE.out _).mono ?_
          rintro e w' ⟨rfl, rfl⟩
          obtain ⟨c0, c1, c2, c3, c4, c5, cl⟩ := s0.out.cells
          go_wp2_with fail
          refine (B1.out _ s0.out.e.sn s0.out.rd).mono ?_
          rintro e w1 ⟨rfl, hb⟩
          have s1 := Lib.hid (s0.out.next hb)
          clear hb c0 c1 c2 c3 c4 c5 cl
          go_wp2_with fail
          obtain ⟨ys, hys⟩ : ∃ ys : List Int, [dy, lo - 1, lo, hi, hi + 1, (lo + hi).tdiv 2] = ys := ⟨_, rfl⟩
          have hyl : ys.length = 6 := by rw [← hys]; rfl
          have HYS := Lib.hid hys
          have HYL := Lib.hid hyl
          clear hys hyl
          go_loopw [14, 15, 16, 17] (fun I _ _ _ wr => ∃ k : Nat, k ≤ 6 ∧ I = .int .i64 k ∧ Lw w A vs w.heap.size co wr ∧ Bk wr w1.heap.size 3 (ys.map (Value.int .i64)).toArray) (fun I _ _ _ _ => 6 - (intOf I).toNat)
          case atStart =>
            refine ⟨0, by omega, rfl, s1.out.alloc _, ?_⟩
            rw [← HYS.out]
            exact Bk.new w1 _ _
          case round =>
            clear HYS
            obtain ⟨k, hk, rfl, hS, hK⟩ := hrel
            have s2 := Lib.hid hS
            have K2 := Lib.hid hK
            clear hS
            by_cases hlt : k < 6
            · have e0 := hK.cell k
              rw [List.getElem?_toArray, List.getElem?_map, List.getElem?_eq_getElem (by rw [HYL.out]; exact hlt), Option.map_some] at e0
              have bl := hK.lt
              obtain ⟨y, hyy⟩ : ∃ y, ys[k]'(by rw [HYL.out]; exact hlt) = y := ⟨_, rfl⟩
              rw [hyy] at e0
              clear hyy hK
              by_cases hy : -100000 ≤ y ∧ y ≤ 100000
              · have hd1 : decide (y < -100000) = false := decide_eq_false (by omega)
                have hd2 : decide (100000 < y) = false := decide_eq_false (by omega)
                have b := B3.out y hy.1 hy.2
                clear B3 hy
                obtain ⟨c0, c1, c2, c3, c4, c5, cl⟩ := s2.out.cells
                by_cases h1 : lo ≤ y
                · have g1 : decide (lo ≤ y) = true := decide_eq_true h1
                  by_cases h2 : y ≤ hi
                  · have g2 : decide (y ≤ hi) = true := decide_eq_true h2
                    rw [g1, g2, show (true && (true && true)) = true from rfl] at b
                    clear h1 h2
                    have B := Lib.hid b
                    clear b
                    go_wp2_with fail
                    refine (B.out _ s2.out.e.sn s2.out.rd).mono ?_
                    rintro e w2 ⟨rfl, hb⟩
                    have s3 := Lib.hid (s2.out.next hb)
                    have K3 := Lib.hid (K2.out.below hb K2.out.lt)
                    clear hb c0 c1 c2 c3 c4 c5 cl e0 bl
                    go_wp2_with fail
                    go_roundw
                    case rel => exact ⟨k + 1, by omega, by go_num, s3.out, K3.out⟩
                    case measure => simp [intOf]; omega
                  · have g2 : decide (y ≤ hi) = false := decide_eq_false h2
                    rw [g1, g2, show (true && (true && false)) = false from rfl] at b
                    clear h1 h2
                    have B := Lib.hid b
                    clear b
                    go_wp2_with fail
                    refine (B.out _ s2.out.e.sn s2.out.rd).mono ?_
                    rintro e w2 ⟨rfl, hb⟩
                    have s3 := Lib.hid (s2.out.next hb)
                    have K3 := Lib.hid (K2.out.below hb K2.out.lt)
                    clear hb c0 c1 c2 c3 c4 c5 cl e0 bl
                    go_wp2_with fail
                    go_roundw
                    case rel => exact ⟨k + 1, by omega, by go_num, s3.out, K3.out⟩
                    case measure => simp [intOf]; omega
                · have g1 : decide (lo ≤ y) = false := decide_eq_false h1
                  rw [g1, Bool.false_and, show (true && false) = false from rfl] at b
                  clear h1
                  have B := Lib.hid b
                  clear b
                  go_wp2_with fail
                  refine (B.out _ s2.out.e.sn s2.out.rd).mono ?_
                  rintro e w2 ⟨rfl, hb⟩
                  have s3 := Lib.hid (s2.out.next hb)
                  have K3 := Lib.hid (K2.out.below hb K2.out.lt)
                  clear hb c0 c1 c2 c3 c4 c5 cl e0 bl
                  go_wp2_with fail
                  go_roundw
                  case rel => exact ⟨k + 1, by omega, by go_num, s3.out, K3.out⟩
                  case measure => simp [intOf]; omega
              · have ht : (decide (y < -100000) || decide (100000 < y)) = true := by simp; omega
                by_cases h1 : y < -100000
                · have hd1 : decide (y < -100000) = true := decide_eq_true h1
                  clear B3 hy ht h1
                  go_wp2_with fail
                  go_roundw
                  case rel => exact ⟨k + 1, by omega, by go_num, s2.out, K2.out⟩
                  case measure => simp [intOf]; omega
                · have hd1 : decide (y < -100000) = false := decide_eq_false h1
                  have hd2 : decide (100000 < y) = true := decide_eq_true (by omega)
                  clear B3 hy ht h1
                  go_wp2_with fail
                  go_roundw
                  case rel => exact ⟨k + 1, by omega, by go_num, s2.out, K2.out⟩
                  case measure => simp [intOf]; omega
            · obtain rfl : k = 6 := by omega
              clear B3 B1 hK
              go_wp2_with fail
              refine (measured_any _ s2.out.e).mono ?_
              rintro e w9 ⟨rfl, hb⟩
              have s9 := Lib.hid (s2.out.next hb)
              clear hb
              go_wp2_with fail
              go_ret
              exact ⟨rfl, s9.out.b⟩
      · have hyd : (decide (dy < -100000) || decide (100000 < dy)) = true := by simp; omega
        have r5 : decide (lo ≤ hi) = true := decide_eq_true r3
        by_cases h1 : dy < -100000
        · have hd1 : decide (dy < -100000) = true := decide_eq_true h1
          clear hyd hy h1
          go_enter Tryz.func12, Tryz.ntmps12
          go_wp2_with fail
          refine (FE.out _).mono ?_
          rintro e w' ⟨rfl, rfl⟩
          obtain ⟨c0, c1, c2, c3, c4, c5, cl⟩ := s0.out.cells
          go_wp2_with fail
          refine (B1.out _ s0.out.e.sn s0.out.rd).mono ?_
          rintro e w1 ⟨rfl, hb⟩
          have s1 := Lib.hid (s0.out.next hb)
          clear hb c0 c1 c2 c3 c4 c5 cl
          go_wp2_with fail
          refine (measured_any _ s1.out.e).mono ?_
          rintro e w9 ⟨rfl, hb⟩
          have s9 := Lib.hid (s1.out.next hb)
          clear hb
          go_wp2_with fail
          go_ret
          exact ⟨rfl, s9.out.b⟩
        · have hd1 : decide (dy < -100000) = false := decide_eq_false h1
          have hd2 : decide (100000 < dy) = true := decide_eq_true (by omega)
          clear hyd hy h1
          go_enter Tryz.func12, Tryz.ntmps12
          go_wp2_with fail
          refine (FE.out _).mono ?_
          rintro e w' ⟨rfl, rfl⟩
          obtain ⟨c0, c1, c2, c3, c4, c5, cl⟩ := s0.out.cells
          go_wp2_with fail
          refine (B1.out _ s0.out.e.sn s0.out.rd).mono ?_
          rintro e w1 ⟨rfl, hb⟩
          have s1 := Lib.hid (s0.out.next hb)
          clear hb c0 c1 c2 c3 c4 c5 cl
          go_wp2_with fail
          refine (measured_any _ s1.out.e).mono ?_
          rintro e w9 ⟨rfl, hb⟩
          have s9 := Lib.hid (s1.out.next hb)
          clear hb
          go_wp2_with fail
          go_ret
          exact ⟨rfl, s9.out.b⟩
    · rw [Cs.comF_err1 he] at b1
      dsimp only at b1
      obtain ⟨e, hee⟩ : ∃ e, Cs.eastE vs [co] dx = e := ⟨_, rfl⟩
      rw [hee] at b1 he
      have B1 := Lib.hid b1
      have hne : (e != 0) = true := by simp [he]
      clear b1 b2 hfew hd hf hn hee he
      go_enter Tryz.func12, Tryz.ntmps12
      go_wp2_with fail
      refine (FE.out _).mono ?_
      rintro e w' ⟨rfl, rfl⟩
      obtain ⟨c0, c1, c2, c3, c4, c5, cl⟩ := s0.out.cells
      go_wp2_with fail
      refine (B1.out _ s0.out.e.sn s0.out.rd).mono ?_
      rintro e w1 ⟨rfl, hb⟩
      have s1 := Lib.hid (s0.out.next hb)
      clear hb c0 c1 c2 c3 c4 c5 cl
      go_wp2_with fail
      refine (measured_any _ s1.out.e).mono ?_
      rintro e w9 ⟨rfl, hb⟩
      have s9 := Lib.hid (s1.out.next hb)
      clear hb
      go_wp2_with fail
      go_ret
      exact ⟨rfl, s9.out.b⟩
  · have hd : decide ((vs.length : Int) ≤ 60) = false := decide_eq_false (by omega)
    have hfew := few_any A c vs.length hn
    rw [hd] at hfew
    simp only [cval_def]
    have FE := Lib.hid hfew
    clear hfew hd hf hn
    go_enter Tryz.func12, Tryz.ntmps12
    go_wp2_with fail
    refine (FE.out _).mono ?_
    rintro e w' ⟨rfl, rfl⟩
    go_wp2_with fail
    refine (measured_any _ s0.out.e).mono ?_
    rintro e w9 ⟨rfl, hb⟩
    have s9 := Lib.hid (s0.out.next hb)
    clear hb
    go_wp2_with fail
    go_ret
    exact ⟨rfl, s9.out.b⟩

end Go.Proofs.YtncdeogpmodoaaaGreatDoor
