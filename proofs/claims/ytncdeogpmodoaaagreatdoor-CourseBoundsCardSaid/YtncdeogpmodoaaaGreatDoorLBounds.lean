/-
  CourseBounds: the law's walk.
-/
import Derived.Test.YtncdeogpmodoaaaGreatDoorRcom
import Derived.Test.YtncdeogpmodoaaaGreatDoorLExact
set_option linter.unusedVariables false
set_option linter.unusedSimpArgs false
namespace Go.Proofs.YtncdeogpmodoaaaGreatDoor
open Go.RowKit
set_option maxRecDepth 100000

/-- The cells of the two bounds. -/
def bcs (f t hi lo r : Int) : Array Value := #[.int .i64 f, .int .i64 t, .int .i64 hi, .int .i64 r, .int .i64 t, .int .i64 f, .int .i64 (-lo), .int .i64 r]

theorem Lw.drewN {w W : World} {A : Option Addr} {vs : List (Int × Int)} {g : Nat} {c : Cs.Co} (h : Lw w A vs g c W) (n : Nat) : Lw w A vs g c (W.drewN n) :=
  h.next ⟨rfl, rfl, rfl, Nat.le_refl _, fun _ _ => rfl⟩

set_option maxHeartbeats 8000000 in
theorem courseBounds_any (A : Option Addr) (c : Nat) (vs : List (Int × Int)) (co : Cs.Co) (dx fr to_ rec_ : Int) (w : World) (hE : Env w) (hR : Rd w w.heap.size 2 A vs.length (vcells vs)) (hn : vs.length ≤ 9223372036854775807) :
    Calls Tryz.prog 11 #[.slice A vs.length c, cval co, .int .i64 dx, .int .i64 fr, .int .i64 to_, .int .i64 rec_] w fun e w' => e = .returned (.bool true) ∧ Below w.heap.size w w' := by
  have s0 := Lib.hid (Lw.new (c := co) hE hR)
  clear hE hR
  by_cases hf : vs.length ≤ 60
  · have hd : decide ((vs.length : Int) ≤ 60) = true := decide_eq_true (by omega)
    have hfew := few_any A c vs.length hn
    rw [hd] at hfew
    have FE := Lib.hid hfew
    clear hfew hd
    by_cases hno : (Cs.comF vs [co] dx).2 ≠ 0 ∨ (Cs.comF vs [co] dx).1.2.2 = false
    · have b1 := fun W hs h => Bounds_no A c vs co dx fr to_ rec_ W hs h (by omega) hno
      have b2 := fun W h => rBounds_no A c vs co dx fr to_ rec_ W h (by omega) hno
      obtain ⟨e, he⟩ : ∃ e, (if (Cs.comF vs [co] dx).2 ≠ 0 then (Cs.comF vs [co] dx).2 else 5) = e := ⟨_, rfl⟩
      rw [he] at b1 b2
      simp only [cval_def] at b1 b2 ⊢
      have B1 := Lib.hid b1
      have B2 := Lib.hid b2
      clear b1 b2 he hno hn hf
      go_enter Tryz.func11, Tryz.ntmps11
      go_wp2_with fail
      refine (FE.out _).mono ?_
      rintro e w' ⟨rfl, rfl⟩
      obtain ⟨c0, c1, c2, c3, c4, c5, cl⟩ := s0.out.cells
      go_wp2_with fail
      refine (B1.out _ s0.out.e.sn s0.out.rd).mono ?_
      rintro e w1 ⟨rfl, hb⟩
      have s1 := Lib.hid (s0.out.next hb)
      clear hb c0 c1 c2 c3 c4 c5 cl
      obtain ⟨c0, c1, c2, c3, c4, c5, cl⟩ := s1.out.cells
      go_wp2_with fail
      refine (B2.out _ s1.out.rd).mono ?_
      rintro e w2 ⟨rfl, hb⟩
      have s2 := Lib.hid (s1.out.next hb)
      clear hb c0 c1 c2 c3 c4 c5 cl
      go_wp2_with fail
      go_loopw [17] (fun I wr => I = .int .i64 0 ∧ Lw w A vs w.heap.size co wr) (fun _ _ => 0)
      case atStart => exact ⟨rfl, s2.out⟩
      case round =>
        clear s2
        obtain ⟨rfl, hS⟩ := hrel
        have s2 := Lib.hid hS
        clear hS
        go_wp2_with fail
        refine (measured_any _ s2.out.e).mono ?_
        rintro e w9 ⟨rfl, hb⟩
        have s9 := Lib.hid (s2.out.next hb)
        clear hb
        go_wp2_with fail
        go_ret
        exact ⟨rfl, s9.out.b⟩
    · have hz : (Cs.comF vs [co] dx).2 = 0 := Decidable.not_not.1 (fun h => hno (.inl h))
      have hk : (Cs.comF vs [co] dx).1.2.2 = true := by
        rcases h : (Cs.comF vs [co] dx).1.2.2 with _ | _
        · exact absurd (.inr h) hno
        · rfl
      have hrg : -100000 ≤ (Cs.comF vs [co] dx).1.1 ∧ (Cs.comF vs [co] dx).1.1 ≤ 100000 := by
        by_cases he : Cs.eastE vs [co] dx = 0
        · rw [Cs.comF_zero he]
          have := Cs.comG_range vs (dx := dx) [co] (-100000) 100000 (by decide) (by decide) (by decide)
          dsimp only
          omega
        · rw [Cs.comF_err1 he]
          exact ⟨by show (-100000 : Int) ≤ 0; decide, by show (0 : Int) ≤ 100000; decide⟩
      obtain ⟨⟨⟨lo, hi, ok⟩, e⟩, hr⟩ : ∃ r, Cs.comF vs [co] dx = r := ⟨_, rfl⟩
      rw [hr] at hz hk hrg
      dsimp only at hz hk hrg
      subst hz
      subst hk
      have b1 := fun W hs h => Bounds_yes A c vs co dx fr to_ rec_ lo hi W hs h (by omega) hr hrg
      have b2 := fun W h => rBounds_yes A c vs co dx fr to_ rec_ lo hi W h (by omega) hr hrg
      simp only [cval_def] at b1 b2 ⊢
      have B1 := Lib.hid b1
      have B2 := Lib.hid b2
      clear b1 b2 hno hn hf hr hrg
      go_enter Tryz.func11, Tryz.ntmps11
      go_wp2_with fail
      refine (FE.out _).mono ?_
      rintro e w' ⟨rfl, rfl⟩
      obtain ⟨c0, c1, c2, c3, c4, c5, cl⟩ := s0.out.cells
      go_wp2_with fail
      refine (B1.out _ s0.out.e.sn s0.out.rd).mono ?_
      rintro e w1 ⟨ga, ta, rfl, _, hA, hb⟩
      have s1 := Lib.hid (s0.out.next hb)
      have KA := Lib.hid hA
      clear hb c0 c1 c2 c3 c4 c5 cl hA
      obtain ⟨c0, c1, c2, c3, c4, c5, cl⟩ := s1.out.cells
      go_wp2_with fail
      refine (B2.out _ s1.out.rd).mono ?_
      rintro e w2 ⟨gb, tb, rfl, _, hB, hb⟩
      have s2 := Lib.hid (s1.out.next hb)
      have KA2 := Lib.hid (KA.out.below hb KA.out.lt)
      have KB2 := Lib.hid hB
      clear hb c0 c1 c2 c3 c4 c5 cl hB KA
      go_wp2_with fail
      go_loopw [17] (fun I wr => ∃ k : Int, (k = 0 ∨ k = 1 ∨ k = 2) ∧ I = .int .i64 k ∧ Lw w A vs w.heap.size co wr ∧ Bk wr ga ta (bcs fr to_ hi lo rec_) ∧ Bk wr gb tb (bcs fr to_ hi lo rec_)) (fun I _ => 2 - (intOf I).toNat)
      case atStart => exact ⟨0, .inl rfl, rfl, s2.out, KA2.out, KB2.out⟩
      case round =>
        clear s2 KA2 KB2
        obtain ⟨k, h3, rfl, hS, hA, hB⟩ := hrel
        have s2 := Lib.hid hS
        clear hS
        unfold bcs at hA hB
        rcases h3 with rfl | rfl | rfl
        · have a0 := (hA.cell 0).trans rfl
          have b0 := (hB.cell 0).trans rfl
          have a1 := (hA.cell 1).trans rfl
          have b1 := (hB.cell 1).trans rfl
          have a2 := (hA.cell 2).trans rfl
          have b2 := (hB.cell 2).trans rfl
          have a3 := (hA.cell 3).trans rfl
          have b3 := (hB.cell 3).trans rfl
          have la := hA.lt
          have lb := hB.lt
          have KA := Lib.hid hA
          have KB := Lib.hid hB
          clear hA hB
          go_wp2_with fail
          go_quiet (fail)
          go_wp2_with fail
          go_roundw
          case rel => exact ⟨1, by simp, by go_num, s2.out.drewN _, KA.out, KB.out⟩
          case measure => simp [intOf]
        · have a0 := (hA.cell 4).trans rfl
          have b0 := (hB.cell 4).trans rfl
          have a1 := (hA.cell 5).trans rfl
          have b1 := (hB.cell 5).trans rfl
          have a2 := (hA.cell 6).trans rfl
          have b2 := (hB.cell 6).trans rfl
          have a3 := (hA.cell 7).trans rfl
          have b3 := (hB.cell 7).trans rfl
          have la := hA.lt
          have lb := hB.lt
          have KA := Lib.hid hA
          have KB := Lib.hid hB
          clear hA hB
          go_wp2_with fail
          go_quiet (fail)
          go_wp2_with fail
          go_roundw
          case rel => exact ⟨2, by simp, by go_num, s2.out.drewN _, KA.out, KB.out⟩
          case measure => simp [intOf]
        · clear hA hB
          go_wp2_with fail
          refine (measured_any _ s2.out.e).mono ?_
          rintro e w9 ⟨rfl, hb⟩
          have s9 := Lib.hid (s2.out.next hb)
          clear hb
          go_wp2_with fail
          go_ret
          exact ⟨rfl, s9.out.b⟩
  · have hd : decide ((vs.length : Int) ≤ 60) = false := decide_eq_false (by omega)
    have hfew := few_any A c vs.length hn
    rw [hd] at hfew
    simp only [cval_def]
    have FE := Lib.hid hfew
    clear hfew hd hf hn
    go_enter Tryz.func11, Tryz.ntmps11
    go_wp2_with fail
    refine (FE.out _).mono ?_
    rintro e w' ⟨rfl, rfl⟩
    go_wp2_with fail
    refine (measured_any _ s0.out.e).mono ?_
    rintro e w9 ⟨rfl, hb⟩
    have s9 := Lib.hid (s0.out.next hb)
    clear hb
    go_wp2_with fail
    go_ret
    exact ⟨rfl, s9.out.b⟩

end Go.Proofs.YtncdeogpmodoaaaGreatDoor
