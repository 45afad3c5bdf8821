/-
  CourseChecks: the law's walk.
-/
import Derived.Test.YtncdeogpmodoaaaGreatDoorRcom
import Derived.Test.YtncdeogpmodoaaaGreatDoorLaw
import Derived.Test.YtncdeogpmodoaaaGreatDoorLTurns
set_option linter.unusedVariables false
set_option linter.unusedSimpArgs false
namespace Go.Proofs.YtncdeogpmodoaaaGreatDoor
open Go.RowKit
set_option maxRecDepth 100000

theorem truV_is (a s l : Int) : ∃ p q r t e, truV a s l = .tuple #[.agg #[.int .i64 p, .int .i64 q], .agg #[.int .i64 r, .int .i64 t], .int .i64 e] := by
  unfold truV
  split
  · exact ⟨_, _, _, _, _, rfl⟩
  · exact ⟨_, _, _, _, _, rfl⟩

set_option maxHeartbeats 8000000 in
theorem courseChecks_any (A : Option Addr) (c : Nat) (vs : List (Int × Int)) (co : Cs.Co) (links year : Int) (w : World) (hE : Env w) (hR : Rd w w.heap.size 2 A vs.length (vcells vs)) (hn : vs.length ≤ 9223372036854775807) :
    Calls Tryz.prog 5 #[.slice A vs.length c, cval co, .int .i64 links, .int .i64 year] w fun e w' => e = .returned (.bool true) ∧ Below w.heap.size w w' := by
  have s0 := Lib.hid (Lw.new (c := co) hE hR)
  clear hE hR
  by_cases hf : vs.length ≤ 60
  · have hd : decide ((vs.length : Int) ≤ 60) = true := decide_eq_true (by omega)
    have hfew := few_any A c vs.length hn
    rw [hd] at hfew
    have FE := Lib.hid hfew
    have b1 := fun W => True_any co.w co.s links W
    have b2 := fun W => rTrue_any co.w co.s links W
    obtain ⟨p, q, r, t, e, ht⟩ := truV_is co.w co.s links
    rw [ht] at b1 b2
    have b3 := fun W h => declination_any A c vs year W h (by omega)
    have b4 := fun W h => rdeclination_any A c vs year W h (by omega)
    obtain ⟨⟨d, is⟩, hdec⟩ : ∃ r, Cs.dec vs year = r := ⟨_, rfl⟩
    rw [hdec] at b3 b4
    have b5 := fun W h => Sector_any A c vs co W h (by omega)
    have b6 := fun W h => rSector_any A c vs co W h (by omega)
    obtain ⟨⟨u, v, g⟩, hsec⟩ : ∃ r, Cs.sectorF vs co = r := ⟨_, rfl⟩
    rw [hsec] at b5 b6
    have b7 := fun W => checkChain_any co.w co.s W
    have b8 := fun W => rcheckChain_any co.w co.s W
    obtain ⟨x1, hx1⟩ : ∃ r, Cs.chainE co.w co.s = r := ⟨_, rfl⟩
    rw [hx1] at b7 b8
    have b9 := fun W => checkCourse_any co W
    have b10 := fun W => rcheckCourse_any co W
    obtain ⟨x2, hx2⟩ : ∃ r, Cs.courseE co = r := ⟨_, rfl⟩
    rw [hx2] at b9 b10
    have b11 := fun W h => checkVariations_any A c vs W h (by omega)
    have b12 := fun W h => rcheckVariations_any A c vs W h (by omega)
    obtain ⟨x3, hx3⟩ : ∃ r, Cs.varsE vs = r := ⟨_, rfl⟩
    rw [hx3] at b11 b12
    dsimp only at b3 b4 b5 b6
    simp only [cval_def] at b5 b6 b9 b10 ⊢
    clear ht hdec hsec hx1 hx2 hx3 hfew hd hf hn
    have B1 := Lib.hid b1
    have B2 := Lib.hid b2
    have B3 := Lib.hid b3
    have B4 := Lib.hid b4
    have B5 := Lib.hid b5
    have B6 := Lib.hid b6
    have B7 := Lib.hid b7
    have B8 := Lib.hid b8
    have B9 := Lib.hid b9
    have B10 := Lib.hid b10
    have B11 := Lib.hid b11
    have B12 := Lib.hid b12
    clear b1 b2 b3 b4 b5 b6 b7 b8 b9 b10 b11 b12
    go_enter Tryz.func5, Tryz.ntmps5
    go_wp2_with fail
    refine (FE.out _).mono ?_
    rintro e w' ⟨rfl, rfl⟩
    obtain ⟨c0, c1, c2, c3, c4, c5, cl⟩ := s0.out.cells
    go_wp2_with fail
    refine (B1.out _).mono ?_
    rintro e w1 ⟨rfl, hb⟩
    have s1 := Lib.hid (s0.out.next hb)
    clear hb c0 c1 c2 c3 c4 c5 cl
    have K9 := Lib.hid ((Bk.new w1 32 #[.int .i64 p, .int .i64 q]).alloc (.cells #[.int .i64 r, .int .i64 t] 32))
    have k10 := Bk.new (w1.alloc (.cells #[.int .i64 p, .int .i64 q] 32)) 32 #[.int .i64 r, .int .i64 t]
    rw [World.size_alloc] at k10
    have K10 := Lib.hid k10
    clear k10
    have s1 := Lib.hid ((s1.out.alloc (.cells #[.int .i64 p, .int .i64 q] 32)).alloc (.cells #[.int .i64 r, .int .i64 t] 32))
    obtain ⟨c0, c1, c2, c3, c4, c5, cl⟩ := s1.out.cells
    go_wp2_with fail
    refine (B2.out _).mono ?_
    rintro e w2 ⟨rfl, hb⟩
    have s2 := Lib.hid (s1.out.next hb)
    have K9 := Lib.hid (K9.out.below hb K9.out.lt)
    have K10 := Lib.hid (K10.out.below hb K10.out.lt)
    clear hb c0 c1 c2 c3 c4 c5 cl
    have K9 := Lib.hid ((K9.out.alloc (.cells #[.int .i64 p, .int .i64 q] 32)).alloc (.cells #[.int .i64 r, .int .i64 t] 32))
    have K10 := Lib.hid ((K10.out.alloc (.cells #[.int .i64 p, .int .i64 q] 32)).alloc (.cells #[.int .i64 r, .int .i64 t] 32))
    have K12 := Lib.hid ((Bk.new w2 32 #[.int .i64 p, .int .i64 q]).alloc (.cells #[.int .i64 r, .int .i64 t] 32))
    have k13 := Bk.new (w2.alloc (.cells #[.int .i64 p, .int .i64 q] 32)) 32 #[.int .i64 r, .int .i64 t]
    rw [World.size_alloc] at k13
    have K13 := Lib.hid k13
    clear k13
    have s2 := Lib.hid ((s2.out.alloc (.cells #[.int .i64 p, .int .i64 q] 32)).alloc (.cells #[.int .i64 r, .int .i64 t] 32))
    go_wp2_with fail
    obtain ⟨W2, hW2⟩ : ∃ W, ((w2.alloc (.cells #[.int .i64 p, .int .i64 q] 32)).alloc (.cells #[.int .i64 r, .int .i64 t] 32)) = W := ⟨_, rfl⟩
    obtain ⟨ga, hga⟩ : ∃ g, w1.heap.size = g := ⟨_, rfl⟩
    obtain ⟨gb, hgb⟩ : ∃ g, w2.heap.size = g := ⟨_, rfl⟩
    rw [hW2] at s2 K9 K10 K12 K13 ⊢
    rw [hga] at K9 K10 ⊢
    rw [hgb] at K12 K13 ⊢
    clear hW2 hga hgb
    refine (B3.out _ s2.out.rd).mono ?_
    rintro e w3 ⟨rfl, hb⟩
    have s3 := Lib.hid (s2.out.next hb)
    have K9 := Lib.hid (K9.out.below hb K9.out.lt)
    have K10 := Lib.hid (K10.out.below hb K10.out.lt)
    have K12 := Lib.hid (K12.out.below hb K12.out.lt)
    have K13 := Lib.hid (K13.out.below hb K13.out.lt)
    clear hb
    go_wp2_with fail
    refine (B4.out _ s3.out.rd).mono ?_
    rintro e w4 ⟨rfl, hb⟩
    have s4 := Lib.hid (s3.out.next hb)
    have K9 := Lib.hid (K9.out.below hb K9.out.lt)
    have K10 := Lib.hid (K10.out.below hb K10.out.lt)
    have K12 := Lib.hid (K12.out.below hb K12.out.lt)
    have K13 := Lib.hid (K13.out.below hb K13.out.lt)
    clear hb
    obtain ⟨c0, c1, c2, c3, c4, c5, cl⟩ := s4.out.cells
    go_wp2_with fail
    refine (B5.out _ s4.out.rd).mono ?_
    rintro e w5 ⟨rfl, hb⟩
    have s5 := Lib.hid (s4.out.next hb)
    have K9 := Lib.hid (K9.out.below hb K9.out.lt)
    have K10 := Lib.hid (K10.out.below hb K10.out.lt)
    have K12 := Lib.hid (K12.out.below hb K12.out.lt)
    have K13 := Lib.hid (K13.out.below hb K13.out.lt)
    clear hb c0 c1 c2 c3 c4 c5 cl
    obtain ⟨c0, c1, c2, c3, c4, c5, cl⟩ := s5.out.cells
    go_wp2_with fail
    refine (B6.out _ s5.out.rd).mono ?_
    rintro e w6 ⟨rfl, hb⟩
    have s6 := Lib.hid (s5.out.next hb)
    have K9 := Lib.hid (K9.out.below hb K9.out.lt)
    have K10 := Lib.hid (K10.out.below hb K10.out.lt)
    have K12 := Lib.hid (K12.out.below hb K12.out.lt)
    have K13 := Lib.hid (K13.out.below hb K13.out.lt)
    clear hb c0 c1 c2 c3 c4 c5 cl
    have f9 := (K9.out.cell 0).trans rfl
    have h9 := (K9.out.cell 1).trans rfl
    have l9 := K9.out.lt
    have f10 := (K10.out.cell 0).trans rfl
    have h10 := (K10.out.cell 1).trans rfl
    have l10 := K10.out.lt
    have f12 := (K12.out.cell 0).trans rfl
    have h12 := (K12.out.cell 1).trans rfl
    have l12 := K12.out.lt
    have f13 := (K13.out.cell 0).trans rfl
    have h13 := (K13.out.cell 1).trans rfl
    have l13 := K13.out.lt
    go_wp2_with fail
    have HSB := Lib.hid (show ∀ V, Below w6.heap.size w6 V → Cc V w.heap.size co from fun V h => (s6.out.next h).k.cc)
    unfold Cc at HSB
    have hbZ : Below w6.heap.size w6 w6.drew := (Below.refl _ _).drew
    clear K9 K10 K12 K13 f9 h9 l9 f10 h10 l10 f12 h12 l12 f13 h13 l13
    go_region_held3 (fun V => V.cell? ⟨w.heap.size, 0, none⟩ = some (.int .i64 co.b) ∧ V.cell? ⟨w.heap.size, 1, none⟩ = some (.int .i64 co.n) ∧ V.cell? ⟨w.heap.size, 2, none⟩ = some (.int .i64 co.l) ∧ V.cell? ⟨w.heap.size, 3, none⟩ = some (.int .i64 co.y) ∧ V.cell? ⟨w.heap.size, 4, none⟩ = some (.int .i64 co.w) ∧ V.cell? ⟨w.heap.size, 5, none⟩ = some (.int .i64 co.s))
      (first
        | ((try dsimp only); first | (with_reducible exact HSB.out _ hbH) | (with_reducible exact HSB.out _ hbG) | (with_reducible exact HSB.out _ hbF) | (with_reducible exact HSB.out _ hbE) | (with_reducible exact HSB.out _ hbD) | (with_reducible exact HSB.out _ hbC) | (with_reducible exact HSB.out _ hbA) | (with_reducible exact HSB.out _ hbZ)))
      (first
        | (go_at_call 21; refine (measured_any _ (s6.out.next hbZ).e).mono ?_; rintro e wA ⟨rfl, hba⟩; have hbA : Below w6.heap.size w6 wA := hbZ.trans (hba.mono hbZ.size))
        | (go_at_call 33; refine (B7.out _).mono ?_; rintro e wC ⟨rfl, hbc⟩; have hbC : Below w6.heap.size w6 wC := hbA.trans (hbc.mono hbA.size))
        | (go_at_call 34; refine (B8.out _).mono ?_; rintro e wD ⟨rfl, hbd⟩; have hbD : Below w6.heap.size w6 wD := hbC.trans (hbd.mono hbC.size))
        | (go_at_call 35; refine (B9.out _).mono ?_; rintro e wE ⟨rfl, hbe⟩; have hbE : Below w6.heap.size w6 wE := hbD.trans (hbe.mono hbD.size))
        | (go_at_call 36; refine (B10.out _).mono ?_; rintro e wF ⟨rfl, hbf⟩; have hbF : Below w6.heap.size w6 wF := hbE.trans (hbf.mono hbE.size))
        | (go_at_call 37; refine (B11.out _ (s6.out.next hbF).rd).mono ?_; rintro e wG ⟨rfl, hbg⟩; have hbG : Below w6.heap.size w6 wG := hbF.trans (hbg.mono hbF.size))
        | (go_at_call 38; refine (B12.out _ (s6.out.next hbG).rd).mono ?_; rintro e wH ⟨rfl, hbh⟩; have hbH : Below w6.heap.size w6 wH := hbG.trans (hbh.mono hbG.size)))
    all_goals
      go_wp2_with fail
      go_ret
      exact ⟨rfl, (s6.out.next hbH).b⟩
  · have hd : decide ((vs.length : Int) ≤ 60) = false := decide_eq_false (by omega)
    have hfew := few_any A c vs.length hn
    rw [hd] at hfew
    simp only [cval_def]
    have FE := Lib.hid hfew
    clear hfew hd hf hn
    go_enter Tryz.func5, Tryz.ntmps5
    go_wp2_with fail
    refine (FE.out _).mono ?_
    rintro e w' ⟨rfl, rfl⟩
    go_wp2_with fail
    refine (measured_any _ s0.out.e).mono ?_
    rintro e w1 ⟨rfl, hb⟩
    have s1 := Lib.hid (s0.out.next hb)
    clear hb
    go_wp2_with fail
    go_ret
    exact ⟨rfl, s1.out.b⟩

end Go.Proofs.YtncdeogpmodoaaaGreatDoor
