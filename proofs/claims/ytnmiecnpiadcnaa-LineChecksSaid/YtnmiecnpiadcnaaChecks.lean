/-
  LineChecks: the law's walk.
-/
import Derived.Test.YtnmiecnpiadcnaaAlive
import Derived.Test.YtnmiecnpiadcnaaKeptL
import Derived.Test.YtnmiecnpiadcnaaKeptR
set_option linter.unusedVariables false
set_option linter.unusedSimpArgs false
namespace Go.Proofs.Ytnmiecnpiadcnaa
open Go.RowKit Go.Shelf

set_option maxRecDepth 100000 in
set_option maxHeartbeats 4000000 in
theorem lineChecks_any (N : Int) (A : Option Addr) (c : Nat) (bs : List Ln.Bd) (A2 : Option Addr) (c2 : Nat) (y : List Int) (w : World) (hR : Rd w w.heap.size 4 A bs.length (bcells bs)) (hY : Rd w w.heap.size 1 A2 y.length (ints y)) :
    Calls Try.prog 3 #[.agg #[.int .i64 N, .slice A bs.length c], .slice A2 y.length c2] w fun e w' => e = .returned (.bool true) ∧ Below w.heap.size w w' := by
  have hB0 : Below w.heap.size w (w.alloc (.cells #[.int .i64 N, .slice A bs.length c] 24)) := (Below.refl _ _).alloc (Nat.le_refl _) _
  have k0 := Bk.new w 24 #[.int .i64 N, .slice A bs.length c]
  have hR1 := (hR.below hB0 (Nat.le_refl _)).more hB0.size
  have hY1 := (hY.below hB0 (Nat.le_refl _)).more hB0.size
  rcases Nat.lt_or_ge 2005 bs.length with h1 | h1
  · go_enter Try.func3, Try.ntmps3
    go_wp2_with fail
    refine (alive_any _).mono ?_
    rintro e w1 ⟨rfl, hb1⟩
    go_wp2_with fail
    go_ret
    exact ⟨rfl, hB0.trans (hb1.mono hB0.size)⟩
  · rcases Nat.lt_or_ge 200 y.length with h2 | h2
    · go_enter Try.func3, Try.ntmps3
      go_wp2_with fail
      refine (alive_any _).mono ?_
      rintro e w1 ⟨rfl, hb1⟩
      go_wp2_with fail
      go_ret
      exact ⟨rfl, hB0.trans (hb1.mono hB0.size)⟩
    · obtain ⟨kf, hkf⟩ : ∃ kf, Ln.keptF N bs y = kf := ⟨_, rfl⟩
      obtain ⟨k1, k2, k3⟩ := kf
      have HKL := Lib.hid fun w hR hY => kept_any N A c bs A2 c2 y w hR (by omega) hY (by omega)
      have HKR := Lib.hid fun w hR hY => rkept_any N A c bs A2 c2 y w hR (by omega) hY (by omega)
      rw [hkf] at HKL HKR
      clear hkf
      have HCL := Lib.hid fun w hR => check_any N A c bs w hR (by omega)
      have HCR := Lib.hid fun w hR => rcheck_any N A c bs w hR (by omega)
      obtain ⟨ck, hck⟩ : ∃ ck, Ln.check N bs = ck := ⟨_, rfl⟩
      rw [hck] at HCL HCR
      clear hck
      go_enter Try.func3, Try.ntmps3
      go_wp2_with fail
      refine (HKL.out _ hR1 hY1).mono ?_
      rintro e w1 ⟨rfl, hb1⟩
      have hB1 := hB0.trans (hb1.mono hB0.size)
      have q1 := k0.below hb1 (by simp)
      have hR2 := (hR1.below hb1 (Nat.le_refl _)).more hb1.size
      have hY2 := (hY1.below hb1 (Nat.le_refl _)).more hb1.size
      have d0 := q1.cell 0
      have d1 := q1.cell 1
      have dl := q1.lt
      simp only [List.getElem?_toArray, List.getElem?_cons_zero, List.getElem?_cons_succ] at d0 d1
      go_wp2_with fail
      refine (HKR.out _ hR2 hY2).mono ?_
      rintro e w2 ⟨rfl, hb2⟩
      have hB2 := hB1.trans (hb2.mono hB1.size)
      have q2 := q1.below hb2 q1.lt
      have hR3 := (hR2.below hb2 (Nat.le_refl _)).more hb2.size
      clear d0 d1 dl
      have d0 := q2.cell 0
      have d1 := q2.cell 1
      have dl := q2.lt
      simp only [List.getElem?_toArray, List.getElem?_cons_zero, List.getElem?_cons_succ] at d0 d1
      go_wp2_with fail
      have hSB : ∀ W, Below w2.heap.size w2 W → W.cell? ⟨w.heap.size, 0, none⟩ = some (.int .i64 N) ∧ W.cell? ⟨w.heap.size, 1, none⟩ = some (.slice A bs.length c) := fun W hb =>
        ⟨(hb.cell (p := ⟨w.heap.size, 0, none⟩) (by simp; omega)).trans d0, (hb.cell (p := ⟨w.heap.size, 1, none⟩) (by simp; omega)).trans d1⟩
      have hRR : ∀ W, Below w2.heap.size w2 W → Rd W W.heap.size 4 A bs.length (bcells bs) := fun W hb => (hR3.below hb (Nat.le_refl _)).more hb.size
      have HSB := Lib.hid hSB
      have HRR := Lib.hid hRR
      have hbZ : Below w2.heap.size w2 w2.drew := (Below.refl _ _).drew
      clear hSB hRR hR hY hB0 k0 hR1 hY1 hb1 q1 hR2 hY2 hb2 q2 hR3 h1 h2 hB1 HKL HKR
      go_region_held3 (fun w' => w'.cell? ⟨w.heap.size, 0, none⟩ = some (.int .i64 N) ∧ w'.cell? ⟨w.heap.size, 1, none⟩ = some (.slice A bs.length c))
        (first
          | go_keep
          | ((try dsimp only); first | (with_reducible exact HSB.out _ hbD) | (with_reducible exact HSB.out _ hbC) | (with_reducible exact HSB.out _ hbA) | (with_reducible exact HSB.out _ hbZ)))
        (first
          | (go_at_call 15; refine (alive_any _).mono ?_; rintro e wA ⟨rfl, hba⟩; have hbA : Below w2.heap.size w2 wA := hbZ.trans (hba.mono hbZ.size))
          | (go_at_call 18; refine (HCL.out wA (HRR.out wA hbA)).mono ?_; rintro e wC ⟨rfl, hbc⟩; have hbC : Below w2.heap.size w2 wC := hbA.trans (hbc.mono hbA.size))
          | (go_at_call 19; refine (HCR.out wC (HRR.out wC hbC)).mono ?_; rintro e wD ⟨rfl, hbd⟩; have hbD : Below w2.heap.size w2 wD := hbC.trans (hbd.mono hbC.size)))
      all_goals
        go_wp2_with fail
        go_ret
        exact ⟨rfl, hB2.trans (hbD.mono hB2.size)⟩

end Go.Proofs.Ytnmiecnpiadcnaa
