/-
  CourseTurns: the law's walk.
-/
import Derived.Test.YtncdeogpmodoaaaGreatDoorRcom
import Derived.Test.YtncdeogpmodoaaaGreatDoorLaw
set_option linter.unusedVariables false
set_option linter.unusedSimpArgs false
namespace Go.Proofs.YtncdeogpmodoaaaGreatDoor
open Go.RowKit
set_option maxRecDepth 100000

/-- A course's six cells in a block. -/
def Cc (V : World) (g : Nat) (c : Cs.Co) : Prop := V.cell? ⟨g, 0, none⟩ = some (.int .i64 c.b) ∧ V.cell? ⟨g, 1, none⟩ = some (.int .i64 c.n) ∧ V.cell? ⟨g, 2, none⟩ = some (.int .i64 c.l) ∧ V.cell? ⟨g, 3, none⟩ = some (.int .i64 c.y) ∧ V.cell? ⟨g, 4, none⟩ = some (.int .i64 c.w) ∧ V.cell? ⟨g, 5, none⟩ = some (.int .i64 c.s)
theorem Bk.cc {V : World} {g : Nat} {c : Cs.Co} (h : Bk V g 29 #[.int .i64 c.b, .int .i64 c.n, .int .i64 c.l, .int .i64 c.y, .int .i64 c.w, .int .i64 c.s]) : Cc V g c :=
  ⟨(h.cell 0).trans rfl, (h.cell 1).trans rfl, (h.cell 2).trans rfl, (h.cell 3).trans rfl, (h.cell 4).trans rfl, (h.cell 5).trans rfl⟩

set_option maxHeartbeats 8000000 in
theorem courseTurns_any (co c2 : Cs.Co) (w : World) (hE : Env w) :
    Calls Tryz.prog 9 #[cval co, cval c2] w fun e w' => e = .returned (.bool true) ∧ Below w.heap.size w w' := by
  have b1 := fun W => Reverse_any co W
  have b2 := fun W => rReverse_any co W
  have b3 := fun W => Narrower_any co c2 W
  have b4 := fun W => rNarrower_any co c2 W
  obtain ⟨⟨x, e⟩, hr⟩ : ∃ r, Cs.revF co = r := ⟨_, rfl⟩
  obtain ⟨z, hz⟩ : ∃ z, Cs.narF co c2 = z := ⟨_, rfl⟩
  rw [hr] at b1 b2
  rw [hz] at b3 b4
  dsimp only at b1 b2
  simp only [cval_def] at b1 b2 b3 b4 ⊢
  have B1 := Lib.hid b1
  have B2 := Lib.hid b2
  have B3 := Lib.hid b3
  have B4 := Lib.hid b4
  have M0 := Lib.hid (show Mea w w from ⟨Below.refl _ _, hE⟩)
  clear b1 b2 b3 b4 hr hz hE
  have ka := (Bk.new w 29 #[.int .i64 co.b, .int .i64 co.n, .int .i64 co.l, .int .i64 co.y, .int .i64 co.w, .int .i64 co.s]).alloc (.cells #[.int .i64 c2.b, .int .i64 c2.n, .int .i64 c2.l, .int .i64 c2.y, .int .i64 c2.w, .int .i64 c2.s] 29)
  have kb := Bk.new (w.alloc (.cells #[.int .i64 co.b, .int .i64 co.n, .int .i64 co.l, .int .i64 co.y, .int .i64 co.w, .int .i64 co.s] 29)) 29 #[.int .i64 c2.b, .int .i64 c2.n, .int .i64 c2.l, .int .i64 c2.y, .int .i64 c2.w, .int .i64 c2.s]
  rw [World.size_alloc] at kb
  have hB0 := ((Below.refl w.heap.size w).alloc (Nat.le_refl _) (.cells #[.int .i64 co.b, .int .i64 co.n, .int .i64 co.l, .int .i64 co.y, .int .i64 co.w, .int .i64 co.s] 29)).alloc (by simp) (.cells #[.int .i64 c2.b, .int .i64 c2.n, .int .i64 c2.l, .int .i64 c2.y, .int .i64 c2.w, .int .i64 c2.s] 29)
  have M1 := Lib.hid (M0.out.next hB0)
  have hE0 : Below ((w.alloc (.cells #[.int .i64 co.b, .int .i64 co.n, .int .i64 co.l, .int .i64 co.y, .int .i64 co.w, .int .i64 co.s] 29)).alloc (.cells #[.int .i64 c2.b, .int .i64 c2.n, .int .i64 c2.l, .int .i64 c2.y, .int .i64 c2.w, .int .i64 c2.s] 29)).heap.size _ _ := Below.refl _ ((w.alloc (.cells #[.int .i64 co.b, .int .i64 co.n, .int .i64 co.l, .int .i64 co.y, .int .i64 co.w, .int .i64 co.s] 29)).alloc (.cells #[.int .i64 c2.b, .int .i64 c2.n, .int .i64 c2.l, .int .i64 c2.y, .int .i64 c2.w, .int .i64 c2.s] 29))
  have KA := Lib.hid ka
  have KB := Lib.hid kb
  have LA := Lib.hid ka.lt
  have LB := Lib.hid kb.lt
  obtain ⟨c0, c1, c2', c3, c4, c5⟩ := ka.cc
  have la := ka.lt
  clear ka kb hE0 hB0
  go_enter Tryz.func9, Tryz.ntmps9
  go_wp2_with fail
  refine (B1.out _).mono ?_
  rintro e w1 ⟨rfl, hb⟩
  have M2 := Lib.hid (M1.out.next hb)
  have ka := KA.out.below hb LA.out
  have kb := KB.out.below hb LB.out
  clear hb c0 c1 c2' c3 c4 c5 la LA LB KA KB M1
  have KA := Lib.hid (ka.alloc (.cells #[.int .i64 x.b, .int .i64 x.n, .int .i64 x.l, .int .i64 x.y, .int .i64 x.w, .int .i64 x.s] 29))
  have KB := Lib.hid (kb.alloc (.cells #[.int .i64 x.b, .int .i64 x.n, .int .i64 x.l, .int .i64 x.y, .int .i64 x.w, .int .i64 x.s] 29))
  have KX := Lib.hid (Bk.new w1 29 #[.int .i64 x.b, .int .i64 x.n, .int .i64 x.l, .int .i64 x.y, .int .i64 x.w, .int .i64 x.s])
  have M3 := Lib.hid (M2.out.next ((Below.refl _ _).alloc (Nat.le_refl _) (.cells #[.int .i64 x.b, .int .i64 x.n, .int .i64 x.l, .int .i64 x.y, .int .i64 x.w, .int .i64 x.s] 29)))
  clear ka kb
  obtain ⟨c0, c1, c2', c3, c4, c5⟩ := KA.out.cc
  have la := KA.out.lt
  go_wp2_with fail
  refine (B2.out _).mono ?_
  rintro e w2 ⟨rfl, hb⟩
  have M4 := Lib.hid (M3.out.next hb)
  have ka := KA.out.below hb KA.out.lt
  have kb := KB.out.below hb KB.out.lt
  have kx := KX.out.below hb KX.out.lt
  clear hb c0 c1 c2' c3 c4 c5 la KA KB KX M3
  have ka := ka.alloc (.cells #[.int .i64 x.b, .int .i64 x.n, .int .i64 x.l, .int .i64 x.y, .int .i64 x.w, .int .i64 x.s] 29)
  have kb := kb.alloc (.cells #[.int .i64 x.b, .int .i64 x.n, .int .i64 x.l, .int .i64 x.y, .int .i64 x.w, .int .i64 x.s] 29)
  have kx := kx.alloc (.cells #[.int .i64 x.b, .int .i64 x.n, .int .i64 x.l, .int .i64 x.y, .int .i64 x.w, .int .i64 x.s] 29)
  have ky := Bk.new w2 29 #[.int .i64 x.b, .int .i64 x.n, .int .i64 x.l, .int .i64 x.y, .int .i64 x.w, .int .i64 x.s]
  have M5 := Lib.hid (M4.out.next ((Below.refl _ _).alloc (Nat.le_refl _) (.cells #[.int .i64 x.b, .int .i64 x.n, .int .i64 x.l, .int .i64 x.y, .int .i64 x.w, .int .i64 x.s] 29)))
  go_wp2_with fail
  obtain ⟨W, hW⟩ : ∃ W, w2.alloc (.cells #[.int .i64 x.b, .int .i64 x.n, .int .i64 x.l, .int .i64 x.y, .int .i64 x.w, .int .i64 x.s] 29) = W := ⟨_, rfl⟩
  obtain ⟨gx, hgx⟩ : ∃ g, w1.heap.size = g := ⟨_, rfl⟩
  obtain ⟨gy, hgy⟩ : ∃ g, w2.heap.size = g := ⟨_, rfl⟩
  obtain ⟨ga, hga⟩ : ∃ g, w.heap.size = g := ⟨_, rfl⟩
  rw [hW] at ka kb kx ky M5 ⊢
  rw [hgx] at kx ⊢
  rw [hgy] at ky ⊢
  rw [hga] at ka kb ⊢
  have HSB := Lib.hid (show ∀ V, Below W.heap.size W V → (Cc V ga co ∧ Cc V (ga + 1) c2) ∧ (Cc V gx x ∧ Cc V gy x) from fun V h => ⟨⟨(ka.below h ka.lt).cc, (kb.below h kb.lt).cc⟩, ⟨(kx.below h kx.lt).cc, (ky.below h ky.lt).cc⟩⟩)
  clear hgx hgy ka kb kx ky hW
  have hbZ : Below W.heap.size W W.drew := (Below.refl _ _).drew
  unfold Cc at HSB
  go_region_held3 (fun V => ((V.cell? ⟨ga, 0, none⟩ = some (.int .i64 co.b) ∧ V.cell? ⟨ga, 1, none⟩ = some (.int .i64 co.n) ∧ V.cell? ⟨ga, 2, none⟩ = some (.int .i64 co.l) ∧ V.cell? ⟨ga, 3, none⟩ = some (.int .i64 co.y) ∧ V.cell? ⟨ga, 4, none⟩ = some (.int .i64 co.w) ∧ V.cell? ⟨ga, 5, none⟩ = some (.int .i64 co.s)) ∧ V.cell? ⟨(ga + 1), 0, none⟩ = some (.int .i64 c2.b) ∧ V.cell? ⟨(ga + 1), 1, none⟩ = some (.int .i64 c2.n) ∧ V.cell? ⟨(ga + 1), 2, none⟩ = some (.int .i64 c2.l) ∧ V.cell? ⟨(ga + 1), 3, none⟩ = some (.int .i64 c2.y) ∧ V.cell? ⟨(ga + 1), 4, none⟩ = some (.int .i64 c2.w) ∧ V.cell? ⟨(ga + 1), 5, none⟩ = some (.int .i64 c2.s)) ∧ (V.cell? ⟨gx, 0, none⟩ = some (.int .i64 x.b) ∧ V.cell? ⟨gx, 1, none⟩ = some (.int .i64 x.n) ∧ V.cell? ⟨gx, 2, none⟩ = some (.int .i64 x.l) ∧ V.cell? ⟨gx, 3, none⟩ = some (.int .i64 x.y) ∧ V.cell? ⟨gx, 4, none⟩ = some (.int .i64 x.w) ∧ V.cell? ⟨gx, 5, none⟩ = some (.int .i64 x.s)) ∧ V.cell? ⟨gy, 0, none⟩ = some (.int .i64 x.b) ∧ V.cell? ⟨gy, 1, none⟩ = some (.int .i64 x.n) ∧ V.cell? ⟨gy, 2, none⟩ = some (.int .i64 x.l) ∧ V.cell? ⟨gy, 3, none⟩ = some (.int .i64 x.y) ∧ V.cell? ⟨gy, 4, none⟩ = some (.int .i64 x.w) ∧ V.cell? ⟨gy, 5, none⟩ = some (.int .i64 x.s))
    (first
      | ((try dsimp only); first | (with_reducible exact HSB.out _ hbD) | (with_reducible exact HSB.out _ hbC) | (with_reducible exact HSB.out _ hbA) | (with_reducible exact HSB.out _ hbZ)))
    (first
      | (go_at_call 21; refine (measured_any _ (M5.out.next hbZ).e).mono ?_; rintro e wA ⟨rfl, hba⟩; have hbA : Below W.heap.size W wA := hbZ.trans (hba.mono hbZ.size))
      | (go_at_call 48; refine (B3.out _).mono ?_; rintro e wC ⟨rfl, hbc⟩; have hbC : Below W.heap.size W wC := hbA.trans (hbc.mono hbA.size))
      | (go_at_call 49; refine (B4.out _).mono ?_; rintro e wD ⟨rfl, hbd⟩; have hbD : Below W.heap.size W wD := hbC.trans (hbd.mono hbC.size)))
  all_goals
    go_wp2_with fail
    go_ret
    exact ⟨rfl, hga ▸ (M5.out.next hbD).b⟩

end Go.Proofs.YtncdeogpmodoaaaGreatDoor
