/-
  CourseNarrower: the law's walk.
-/
import Derived.Test.YtncdeogpmodoaaaGreatDoorLExact
set_option linter.unusedVariables false
set_option linter.unusedSimpArgs false
namespace Go.Proofs.YtncdeogpmodoaaaGreatDoor
open Go.RowKit
set_option maxRecDepth 100000

namespace Cs
theorem east_nar {vs : List (Int × Int)} {a b : Co} (h : narF a b = true) (dx : Int) : eastE vs [a] dx = eastE vs [b] dx := by
  obtain ⟨oa, ob, he, _⟩ := (narF_iff a b).1 h
  simp only [eastE, checkE, List.all_cons, List.all_nil, oa, ob, he.2.2]
  rfl
theorem step_nar {vs : List (Int × Int)} {a b : Co} (h : narF a b = true) (dx dy : Int) : stepE vs a dx dy = stepE vs b dx dy := by
  simp only [stepE, east_nar h]
theorem fits_nar {vs : List (Int × Int)} {a b : Co} (h : narF a b = true) (dx dy : Int) : (fitsF vs a dx dy).2 = (fitsF vs b dx dy).2 ∧ ((fitsF vs a dx dy).1 = true → (fitsF vs b dx dy).1 = true) := by
  have hs := step_nar (vs := vs) h dx dy
  unfold fitsF misfitF
  rw [← hs]
  by_cases he : stepE vs a dx dy = 0
  · rw [if_neg (by rw [he]; simp), if_neg (by rw [he]; simp)]
    refine ⟨rfl, ?_⟩
    simp only [decide_true, Bool.true_and, decide_eq_true_eq]
    exact misF_in vs h
  · rw [if_pos he, if_pos he]
    exact ⟨rfl, fun x => x⟩
theorem com_nar {vs : List (Int × Int)} {a b : Co} (h : narF a b = true) (dx : Int) : (comF vs [a] dx).2 = (comF vs [b] dx).2 ∧
    ((comF vs [a] dx).1.2.2 = true → (comF vs [b] dx).1.2.2 = true ∧ (comF vs [b] dx).1.1 ≤ (comF vs [a] dx).1.1 ∧ (comF vs [a] dx).1.2.1 ≤ (comF vs [b] dx).1.2.1) := by
  have hs := east_nar (vs := vs) h dx
  by_cases he : eastE vs [a] dx = 0
  · have he2 := he
    rw [hs] at he2
    obtain ⟨g1, g2, g3, g4⟩ := east_ok he
    obtain ⟨h1, _⟩ := east_ok he2
    rw [comF_zero he, comF_zero he2, comG_one vs g1 g2 g3 g4, comG_one vs h1 g2 g3 g4]
    refine ⟨rfl, ?_⟩
    dsimp only
    intro hk
    have hok : (intF vs a dx).2.2 = true := by
      rcases hb : (intF vs a dx).2.2 with _ | _
      · rw [hb] at hk; simp at hk
      · rfl
    obtain ⟨k1, k2, k3⟩ := intF_in vs h g2 g3 g4 hok
    rw [hok, k1]
    exact ⟨rfl, k2, k3⟩
  · have he2 := he
    rw [hs] at he2
    rw [comF_err1 he, comF_err1 he2, hs]
    exact ⟨rfl, fun x => by cases x⟩
end Cs

/-- A second course besides the first one's state. -/
structure L2 (w : World) (A : Option Addr) (vs : List (Int × Int)) (g g2 : Nat) (c c2 : Cs.Co) (W : World) : Prop where
  l : Lw w A vs g c W
  k : Bk W g2 29 #[.int .i64 c2.b, .int .i64 c2.n, .int .i64 c2.l, .int .i64 c2.y, .int .i64 c2.w, .int .i64 c2.s]
section
variable {w W W' : World} {A : Option Addr} {vs : List (Int × Int)} {g g2 : Nat} {c c2 : Cs.Co}
theorem L2.next (h : L2 w A vs g g2 c c2 W) (hb : Below W.heap.size W W') : L2 w A vs g g2 c c2 W' := ⟨h.l.next hb, h.k.below hb h.k.lt⟩
theorem L2.cells (h : L2 w A vs g g2 c c2 W) : W.cell? ⟨g2, 0, none⟩ = some (.int .i64 c2.b) ∧ W.cell? ⟨g2, 1, none⟩ = some (.int .i64 c2.n) ∧ W.cell? ⟨g2, 2, none⟩ = some (.int .i64 c2.l) ∧
    W.cell? ⟨g2, 3, none⟩ = some (.int .i64 c2.y) ∧ W.cell? ⟨g2, 4, none⟩ = some (.int .i64 c2.w) ∧ W.cell? ⟨g2, 5, none⟩ = some (.int .i64 c2.s) ∧ g2 < W.heap.size :=
  ⟨(h.k.cell 0).trans rfl, (h.k.cell 1).trans rfl, (h.k.cell 2).trans rfl, (h.k.cell 3).trans rfl, (h.k.cell 4).trans rfl, (h.k.cell 5).trans rfl, h.k.lt⟩
theorem L2.new (hE : Env w) (hR : Rd w w.heap.size 2 A vs.length (vcells vs)) : L2 w A vs w.heap.size (w.heap.size + 1) c c2 ((w.alloc (.cells #[.int .i64 c.b, .int .i64 c.n, .int .i64 c.l, .int .i64 c.y, .int .i64 c.w, .int .i64 c.s] 29)).alloc (.cells #[.int .i64 c2.b, .int .i64 c2.n, .int .i64 c2.l, .int .i64 c2.y, .int .i64 c2.w, .int .i64 c2.s] 29)) :=
  ⟨(Lw.new hE hR).alloc _, by
    have := Bk.new (w.alloc (.cells #[.int .i64 c.b, .int .i64 c.n, .int .i64 c.l, .int .i64 c.y, .int .i64 c.w, .int .i64 c.s] 29)) 29 #[.int .i64 c2.b, .int .i64 c2.n, .int .i64 c2.l, .int .i64 c2.y, .int .i64 c2.w, .int .i64 c2.s]
    rwa [World.size_alloc] at this⟩
end

set_option maxHeartbeats 8000000 in
theorem courseNarrower_any (A : Option Addr) (c : Nat) (vs : List (Int × Int)) (co c2 : Cs.Co) (dx dy : Int) (w : World) (hE : Env w) (hR : Rd w w.heap.size 2 A vs.length (vcells vs)) (hn : vs.length ≤ 9223372036854775807) :
    Calls Tryz.prog 13 #[.slice A vs.length c, cval co, cval c2, .int .i64 dx, .int .i64 dy] w fun e w' => e = .returned (.bool true) ∧ Below w.heap.size w w' := by
  have s0 := Lib.hid (L2.new (c := co) (c2 := c2) hE hR)
  clear hE hR
  by_cases hf : vs.length ≤ 60
  · have hd : decide ((vs.length : Int) ≤ 60) = true := decide_eq_true (by omega)
    have hfew := few_any A c vs.length hn
    rw [hd] at hfew
    have FE := Lib.hid hfew
    have b1 := fun W => Narrower_any co c2 W
    have b2 := fun W hs h => Fits_any A c vs co dx dy W hs h (by omega)
    have b3 := fun W hs h => Fits_any A c vs c2 dx dy W hs h (by omega)
    have b4 := fun W hs h => Interval_any A c vs co dx W hs h (by omega)
    have b5 := fun W hs h => Interval_any A c vs c2 dx W hs h (by omega)
    rcases hnar : Cs.narF co c2 with _ | _
    · rw [hnar] at b1
      simp only [cval_def] at b1 ⊢
      have B1 := Lib.hid b1
      clear b1 b2 b3 b4 b5 hnar hfew hd hf hn
      go_enter Tryz.func13, Tryz.ntmps13
      go_wp2_with fail
      refine (FE.out _).mono ?_
      rintro e w' ⟨rfl, rfl⟩
      obtain ⟨c0, c1, c2', c3, c4, c5, cl⟩ := s0.out.l.cells
      obtain ⟨d0, d1, d2, d3, d4, d5, dl⟩ := s0.out.cells
      go_wp2_with fail
      refine (B1.out _).mono ?_
      rintro e w1 ⟨rfl, hb⟩
      have s1 := Lib.hid (s0.out.next hb)
      clear hb c0 c1 c2' c3 c4 c5 cl d0 d1 d2 d3 d4 d5 dl
      go_wp2_with fail
      refine (measured_any _ s1.out.l.e).mono ?_
      rintro e w9 ⟨rfl, hb⟩
      have s9 := Lib.hid (s1.out.next hb)
      clear hb
      go_wp2_with fail
      go_ret
      exact ⟨rfl, s9.out.l.b⟩
    · have hfit := Cs.fits_nar (vs := vs) hnar dx dy
      have hcom := Cs.com_nar (vs := vs) hnar dx
      rw [hnar] at b1
      obtain ⟨⟨is, e⟩, h1⟩ : ∃ r, Cs.fitsF vs co dx dy = r := ⟨_, rfl⟩
      obtain ⟨⟨was, e2⟩, h2⟩ : ∃ r, Cs.fitsF vs c2 dx dy = r := ⟨_, rfl⟩
      obtain ⟨⟨⟨p, q, some_⟩, g⟩, h3⟩ : ∃ r, Cs.comF vs [co] dx = r := ⟨_, rfl⟩
      obtain ⟨⟨⟨r, s, more⟩, g2⟩, h4⟩ : ∃ r, Cs.comF vs [c2] dx = r := ⟨_, rfl⟩
      rw [h1, h2] at hfit
      rw [h3, h4] at hcom
      rw [h1] at b2
      rw [h2] at b3
      rw [h3] at b4
      rw [h4] at b5
      dsimp only at hfit hcom b2 b3 b4 b5
      obtain ⟨rfl, hfit⟩ := hfit
      obtain ⟨rfl, hcom⟩ := hcom
      simp only [cval_def] at b1 b2 b3 b4 b5 ⊢
      have B1 := Lib.hid b1
      clear h1 h2 h3 h4 b1 hnar hfew hd hf hn
      rcases is with _ | _
      · clear hfit
        rcases some_ with _ | _
        · clear hcom
          have B2 := Lib.hid b2
          have B3 := Lib.hid b3
          have B4 := Lib.hid b4
          have B5 := Lib.hid b5
          clear b2 b3 b4 b5
          go_enter Tryz.func13, Tryz.ntmps13
          go_wp2_with fail
          refine (FE.out _).mono ?_
          rintro e w' ⟨rfl, rfl⟩
          obtain ⟨c0, c1, c2', c3, c4, c5, cl⟩ := s0.out.l.cells
          obtain ⟨d0, d1, d2, d3, d4, d5, dl⟩ := s0.out.cells
          go_wp2_with fail
          refine (B1.out _).mono ?_
          rintro e w1 ⟨rfl, hb⟩
          have s1 := Lib.hid (s0.out.next hb)
          clear hb c0 c1 c2' c3 c4 c5 cl d0 d1 d2 d3 d4 d5 dl
          obtain ⟨c0, c1, c2', c3, c4, c5, cl⟩ := s1.out.l.cells
          go_wp2_with fail
          refine (B2.out _ s1.out.l.e.sn s1.out.l.rd).mono ?_
          rintro e w2 ⟨rfl, hb⟩
          have s2 := Lib.hid (s1.out.next hb)
          clear hb c0 c1 c2' c3 c4 c5 cl
          obtain ⟨c0, c1, c2', c3, c4, c5, cl⟩ := s2.out.cells
          go_wp2_with fail
          refine (B3.out _ s2.out.l.e.sn s2.out.l.rd).mono ?_
          rintro e w3 ⟨rfl, hb⟩
          have s3 := Lib.hid (s2.out.next hb)
          clear hb c0 c1 c2' c3 c4 c5 cl
          obtain ⟨c0, c1, c2', c3, c4, c5, cl⟩ := s3.out.l.cells
          go_wp2_with fail
          refine (B4.out _ s3.out.l.e.sn s3.out.l.rd).mono ?_
          rintro e w4 ⟨rfl, hb⟩
          have s4 := Lib.hid (s3.out.next hb)
          clear hb c0 c1 c2' c3 c4 c5 cl
          obtain ⟨c0, c1, c2', c3, c4, c5, cl⟩ := s4.out.cells
          go_wp2_with fail
          refine (B5.out _ s4.out.l.e.sn s4.out.l.rd).mono ?_
          rintro e w5 ⟨rfl, hb⟩
          have s5 := Lib.hid (s4.out.next hb)
          clear hb c0 c1 c2' c3 c4 c5 cl
          go_wp2_with fail
          refine (measured_any _ s5.out.l.e).mono ?_
          rintro e w9 ⟨rfl, hb⟩
          have s9 := Lib.hid (s5.out.next hb)
          clear hb
          go_wp2_with fail
          go_ret
          exact ⟨rfl, s9.out.l.b⟩
        · obtain ⟨rfl, k1, k2⟩ := hcom rfl
          have d1' : decide (r ≤ p) = true := decide_eq_true k1
          have d2' : decide (q ≤ s) = true := decide_eq_true k2
          clear hcom k1 k2
          have B2 := Lib.hid b2
          have B3 := Lib.hid b3
          have B4 := Lib.hid b4
          have B5 := Lib.hid b5
          clear b2 b3 b4 b5
          go_enter Tryz.func13, Tryz.ntmps13
          go_wp2_with fail
          refine (FE.out _).mono ?_
          rintro e w' ⟨rfl, rfl⟩
          obtain ⟨c0, c1, c2', c3, c4, c5, cl⟩ := s0.out.l.cells
          obtain ⟨d0, d1, d2, d3, d4, d5, dl⟩ := s0.out.cells
          go_wp2_with fail
          refine (B1.out _).mono ?_
          rintro e w1 ⟨rfl, hb⟩
          have s1 := Lib.hid (s0.out.next hb)
          clear hb c0 c1 c2' c3 c4 c5 cl d0 d1 d2 d3 d4 d5 dl
          obtain ⟨c0, c1, c2', c3, c4, c5, cl⟩ := s1.out.l.cells
          go_wp2_with fail
          refine (B2.out _ s1.out.l.e.sn s1.out.l.rd).mono ?_
          rintro e w2 ⟨rfl, hb⟩
          have s2 := Lib.hid (s1.out.next hb)
          clear hb c0 c1 c2' c3 c4 c5 cl
          obtain ⟨c0, c1, c2', c3, c4, c5, cl⟩ := s2.out.cells
          go_wp2_with fail
          refine (B3.out _ s2.out.l.e.sn s2.out.l.rd).mono ?_
          rintro e w3 ⟨rfl, hb⟩
          have s3 := Lib.hid (s2.out.next hb)
          clear hb c0 c1 c2' c3 c4 c5 cl
          obtain ⟨c0, c1, c2', c3, c4, c5, cl⟩ := s3.out.l.cells
          go_wp2_with fail
          refine (B4.out _ s3.out.l.e.sn s3.out.l.rd).mono ?_
          rintro e w4 ⟨rfl, hb⟩
          have s4 := Lib.hid (s3.out.next hb)
          clear hb c0 c1 c2' c3 c4 c5 cl
          obtain ⟨c0, c1, c2', c3, c4, c5, cl⟩ := s4.out.cells
          go_wp2_with fail
          refine (B5.out _ s4.out.l.e.sn s4.out.l.rd).mono ?_
          rintro e w5 ⟨rfl, hb⟩
          have s5 := Lib.hid (s4.out.next hb)
          clear hb c0 c1 c2' c3 c4 c5 cl
          go_wp2_with fail
          refine (measured_any _ s5.out.l.e).mono ?_
          rintro e w9 ⟨rfl, hb⟩
          have s9 := Lib.hid (s5.out.next hb)
          clear hb
          go_wp2_with fail
          go_ret
          exact ⟨rfl, s9.out.l.b⟩
      · obtain rfl := hfit rfl
        clear hfit
        rcases some_ with _ | _
        · clear hcom
          have B2 := Lib.hid b2
          have B3 := Lib.hid b3
          have B4 := Lib.hid b4
          have B5 := Lib.hid b5
          clear b2 b3 b4 b5
          go_enter Tryz.func13, Tryz.ntmps13
          go_wp2_with fail
          refine (FE.out _).mono ?_
          rintro e w' ⟨rfl, rfl⟩
          obtain ⟨c0, c1, c2', c3, c4, c5, cl⟩ := s0.out.l.cells
          obtain ⟨d0, d1, d2, d3, d4, d5, dl⟩ := s0.out.cells
          go_wp2_with fail
          refine (B1.out _).mono ?_
          rintro e w1 ⟨rfl, hb⟩
          have s1 := Lib.hid (s0.out.next hb)
          clear hb c0 c1 c2' c3 c4 c5 cl d0 d1 d2 d3 d4 d5 dl
          obtain ⟨c0, c1, c2', c3, c4, c5, cl⟩ := s1.out.l.cells
          go_wp2_with fail
          refine (B2.out _ s1.out.l.e.sn s1.out.l.rd).mono ?_
          rintro e w2 ⟨rfl, hb⟩
          have s2 := Lib.hid (s1.out.next hb)
          clear hb c0 c1 c2' c3 c4 c5 cl
          obtain ⟨c0, c1, c2', c3, c4, c5, cl⟩ := s2.out.cells
          go_wp2_with fail
          refine (B3.out _ s2.out.l.e.sn s2.out.l.rd).mono ?_
          rintro e w3 ⟨rfl, hb⟩
          have s3 := Lib.hid (s2.out.next hb)
          clear hb c0 c1 c2' c3 c4 c5 cl
          obtain ⟨c0, c1, c2', c3, c4, c5, cl⟩ := s3.out.l.cells
          go_wp2_with fail
          refine (B4.out _ s3.out.l.e.sn s3.out.l.rd).mono ?_
          rintro e w4 ⟨rfl, hb⟩
          have s4 := Lib.hid (s3.out.next hb)
          clear hb c0 c1 c2' c3 c4 c5 cl
          obtain ⟨c0, c1, c2', c3, c4, c5, cl⟩ := s4.out.cells
          go_wp2_with fail
          refine (B5.out _ s4.out.l.e.sn s4.out.l.rd).mono ?_
          rintro e w5 ⟨rfl, hb⟩
          have s5 := Lib.hid (s4.out.next hb)
          clear hb c0 c1 c2' c3 c4 c5 cl
          go_wp2_with fail
          refine (measured_any _ s5.out.l.e).mono ?_
          rintro e w9 ⟨rfl, hb⟩
          have s9 := Lib.hid (s5.out.next hb)
          clear hb
          go_wp2_with fail
          go_ret
          exact ⟨rfl, s9.out.l.b⟩
        · obtain ⟨rfl, k1, k2⟩ := hcom rfl
          have d1' : decide (r ≤ p) = true := decide_eq_true k1
          have d2' : decide (q ≤ s) = true := decide_eq_true k2
          clear hcom k1 k2
          have B2 := Lib.hid b2
          have B3 := Lib.hid b3
          have B4 := Lib.hid b4
          have B5 := Lib.hid b5
          clear b2 b3 b4 b5
          go_enter Tryz.func13, Tryz.ntmps13
          go_wp2_with fail
          refine (FE.out _).mono ?_
          rintro e w' ⟨rfl, rfl⟩
          obtain ⟨c0, c1, c2', c3, c4, c5, cl⟩ := s0.out.l.cells
          obtain ⟨d0, d1, d2, d3, d4, d5, dl⟩ := s0.out.cells
          go_wp2_with fail
          refine (B1.out _).mono ?_
          rintro e w1 ⟨rfl, hb⟩
          have s1 := Lib.hid (s0.out.next hb)
          clear hb c0 c1 c2' c3 c4 c5 cl d0 d1 d2 d3 d4 d5 dl
          obtain ⟨c0, c1, c2', c3, c4, c5, cl⟩ := s1.out.l.cells
          go_wp2_with fail
          refine (B2.out _ s1.out.l.e.sn s1.out.l.rd).mono ?_
          rintro e w2 ⟨rfl, hb⟩
          have s2 := Lib.hid (s1.out.next hb)
          clear hb c0 c1 c2' c3 c4 c5 cl
          obtain ⟨c0, c1, c2', c3, c4, c5, cl⟩ := s2.out.cells
          go_wp2_with fail
          refine (B3.out _ s2.out.l.e.sn s2.out.l.rd).mono ?_
          rintro e w3 ⟨rfl, hb⟩
          have s3 := Lib.hid (s2.out.next hb)
          clear hb c0 c1 c2' c3 c4 c5 cl
          obtain ⟨c0, c1, c2', c3, c4, c5, cl⟩ := s3.out.l.cells
          go_wp2_with fail
          refine (B4.out _ s3.out.l.e.sn s3.out.l.rd).mono ?_
          rintro e w4 ⟨rfl, hb⟩
          have s4 := Lib.hid (s3.out.next hb)
          clear hb c0 c1 c2' c3 c4 c5 cl
          obtain ⟨c0, c1, c2', c3, c4, c5, cl⟩ := s4.out.cells
          go_wp2_with fail
          refine (B5.out _ s4.out.l.e.sn s4.out.l.rd).mono ?_
          rintro e w5 ⟨rfl, hb⟩
          have s5 := Lib.hid (s4.out.next hb)
          clear hb c0 c1 c2' c3 c4 c5 cl
          go_wp2_with fail
          refine (measured_any _ s5.out.l.e).mono ?_
          rintro e w9 ⟨rfl, hb⟩
          have s9 := Lib.hid (s5.out.next hb)
          clear hb
          go_wp2_with fail
          go_ret
          exact ⟨rfl, s9.out.l.b⟩
  · have hd : decide ((vs.length : Int) ≤ 60) = false := decide_eq_false (by omega)
    have hfew := few_any A c vs.length hn
    rw [hd] at hfew
    simp only [cval_def]
    have FE := Lib.hid hfew
    clear hfew hd hf hn
    go_enter Tryz.func13, Tryz.ntmps13
    go_wp2_with fail
    refine (FE.out _).mono ?_
    rintro e w' ⟨rfl, rfl⟩
    go_wp2_with fail
    refine (measured_any _ s0.out.l.e).mono ?_
    rintro e w9 ⟨rfl, hb⟩
    have s9 := Lib.hid (s0.out.next hb)
    clear hb
    go_wp2_with fail
    go_ret
    exact ⟨rfl, s9.out.l.b⟩

end Go.Proofs.YtncdeogpmodoaaaGreatDoor
