/-
  The conditions of a step, as closures; misfit of an aim.
-/
import Derived.Test.YtncdeogpmodoaaaGreatDoorAim
set_option linter.unusedVariables false
set_option linter.unusedSimpArgs false
namespace Go.Proofs.YtncdeogpmodoaaaGreatDoor
open Go.RowKit
set_option maxRecDepth 100000

theorem Sn.drewN {w : World} (h : Sn w) (n : Nat) : Sn (w.drewN n) := h.step (below_drewN (Below.refl _ _) n)
theorem Sn.drew {w : World} (h : Sn w) : Sn w.drew := h.step (Below.refl _ _).drew
theorem mul_in {x y : Int} (hx : -100000 ≤ x ∧ x ≤ 100000) (hy : -10000 ≤ y ∧ y ≤ 10000) : -1000000000 ≤ x * y ∧ x * y ≤ 1000000000 := by
  have h1 : (x * y).natAbs ≤ 100000 * 10000 := by
    rw [Int.natAbs_mul]
    exact Nat.mul_le_mul (by omega) (by omega)
  omega

theorem cond0_any (a : Cs.Aim) (ba : Nat) (w : World) (ka : Bk w ba 83 (acell a)) :
    Calls Tryz.prog 107 #[.pointer (some ⟨ba, 0, none⟩)] w fun e w' => e = .returned (.bool (Cs.cond0 a)) ∧ Below w.heap.size w w' := by
  obtain ⟨al, ah, an, af⟩ := a
  have ka : Bk w ba 83 #[.int .i64 al, .int .i64 ah, .int .i64 an, .int .i64 af] := ka
  have c0 := (ka.cell 0).trans rfl
  have c1 := (ka.cell 1).trans rfl
  have lc := ka.lt
  have hr : Cs.cond0 ⟨al, ah, an, af⟩ = (decide (0 < ah) && decide (al < 180)) := rfl
  rw [hr]
  (try dsimp only at *)
  clear hr ka
  by_cases h : 0 < ah
  · go_enter Tryz.func107, Tryz.ntmps107
    go_wp2
    go_ret
    exact ⟨ret_bool (by rw [decide_eq_true h]; rfl), Below.refl _ _⟩
  · go_enter Tryz.func107, Tryz.ntmps107
    go_wp2
    go_ret
    exact ⟨ret_bool (by rw [decide_eq_false (by omega)]; rfl), Below.refl _ _⟩

set_option maxHeartbeats 2000000 in
theorem cond1_any (a : Cs.Aim) (dx dy : Int) (ba bx by_ : Nat) (w : World) (hs : Sn w) (ka : Bk w ba 83 (acell a)) (kx : Bk w bx 3 #[.int .i64 dx]) (ky : Bk w by_ 3 #[.int .i64 dy])
    (hx : -100000 ≤ dx ∧ dx ≤ 100000) (hy : -100000 ≤ dy ∧ dy ≤ 100000) :
    Calls Tryz.prog 108 #[.pointer (some ⟨ba, 0, none⟩), .pointer (some ⟨by_, 0, none⟩), .pointer (some ⟨bx, 0, none⟩)] w fun e w' => e = .returned (.bool (Cs.cond1 a dx dy)) ∧ Below w.heap.size w w' := by
  obtain ⟨al, ah, an, af⟩ := a
  have ka : Bk w ba 83 #[.int .i64 al, .int .i64 ah, .int .i64 an, .int .i64 af] := ka
  have c0 := (ka.cell 0).trans rfl
  have x0 := (kx.cell 0).trans rfl
  have y0 := (ky.cell 0).trans rfl
  have lc := ka.lt
  have lx := kx.lt
  have ly := ky.lt
  have hr : Cs.cond1 ⟨al, ah, an, af⟩ dx dy = (decide (al ≤ 0) || decide (dy * Cs.sin al ≤ dx * Cs.cos al)) := rfl
  rw [hr]
  (try dsimp only at *)
  clear hr ka kx ky
  by_cases h : al ≤ 0
  · have hd : decide (al ≤ 0) = true := decide_eq_true h
    go_enter Tryz.func108, Tryz.ntmps108
    go_wp2
    go_quiet (fail)
    go_wp2
    go_ret
    exact ⟨ret_bool (by rw [hd]; rfl), below_drewN (Below.refl _ _) _⟩
  · have hd : decide (al ≤ 0) = false := decide_eq_false h
    have HSI := Lib.hid fun w (h : Sn w) => (sin_any al w h).mono fun _ _ ⟨h1, h2⟩ => And.intro h1 h2.symm
    have HCO := Lib.hid fun w (h : Sn w) => (cos_any al w h).mono fun _ _ ⟨h1, h2⟩ => And.intro h1 h2.symm
    obtain ⟨p0, p1⟩ := mul_in hy (Cs.sin_range al)
    obtain ⟨p2, p3⟩ := mul_in hx (Cs.cos_range al)
    obtain ⟨si, hsi⟩ : ∃ q, Cs.sin al = q := ⟨_, rfl⟩
    obtain ⟨co, hco⟩ : ∃ q, Cs.cos al = q := ⟨_, rfl⟩
    simp only [hsi, hco] at *
    have w1 : IntKind.i64.wrap (dy * si) = dy * si := IntWalk.i64_in _ (by omega)
    have w2 : IntKind.i64.wrap (dx * co) = dx * co := IntWalk.i64_in _ (by omega)
    have HS := Lib.hid hs
    clear hs
    go_enter Tryz.func108, Tryz.ntmps108
    go_wp2
    go_quiet ((first
      | (go_at_call 17; exact Calls.quiet_of_same (HSI.out _ (by first | exact HS.out | exact HS.out.drew | exact HS.out.drewN _)))
      | (go_at_call 19; exact Calls.quiet_of_same (HCO.out _ (by first | exact HS.out | exact HS.out.drew | exact HS.out.drewN _)))))
    go_wp2
    go_ret
    exact ⟨ret_bool (by rw [hd]; rfl), below_drewN (Below.refl _ _) _⟩

set_option maxHeartbeats 2000000 in
theorem cond2_any (a : Cs.Aim) (dx dy : Int) (ba bx by_ : Nat) (w : World) (hs : Sn w) (ka : Bk w ba 83 (acell a)) (kx : Bk w bx 3 #[.int .i64 dx]) (ky : Bk w by_ 3 #[.int .i64 dy])
    (hx : -100000 ≤ dx ∧ dx ≤ 100000) (hy : -100000 ≤ dy ∧ dy ≤ 100000) :
    Calls Tryz.prog 109 #[.pointer (some ⟨ba, 0, none⟩), .pointer (some ⟨by_, 0, none⟩), .pointer (some ⟨bx, 0, none⟩)] w fun e w' => e = .returned (.bool (Cs.cond2 a dx dy)) ∧ Below w.heap.size w w' := by
  obtain ⟨al, ah, an, af⟩ := a
  have ka : Bk w ba 83 #[.int .i64 al, .int .i64 ah, .int .i64 an, .int .i64 af] := ka
  have c0 := (ka.cell 1).trans rfl
  have x0 := (kx.cell 0).trans rfl
  have y0 := (ky.cell 0).trans rfl
  have lc := ka.lt
  have lx := kx.lt
  have ly := ky.lt
  have hr : Cs.cond2 ⟨al, ah, an, af⟩ dx dy = (decide (180 ≤ ah) || decide (dx * Cs.cos ah ≤ dy * Cs.sin ah)) := rfl
  rw [hr]
  (try dsimp only at *)
  clear hr ka kx ky
  by_cases h : 180 ≤ ah
  · have hd : decide (180 ≤ ah) = true := decide_eq_true h
    go_enter Tryz.func109, Tryz.ntmps109
    go_wp2
    go_quiet (fail)
    go_wp2
    go_ret
    exact ⟨ret_bool (by rw [hd]; rfl), below_drewN (Below.refl _ _) _⟩
  · have hd : decide (180 ≤ ah) = false := decide_eq_false h
    have HSI := Lib.hid fun w (h : Sn w) => (sin_any ah w h).mono fun _ _ ⟨h1, h2⟩ => And.intro h1 h2.symm
    have HCO := Lib.hid fun w (h : Sn w) => (cos_any ah w h).mono fun _ _ ⟨h1, h2⟩ => And.intro h1 h2.symm
    obtain ⟨p0, p1⟩ := mul_in hy (Cs.sin_range ah)
    obtain ⟨p2, p3⟩ := mul_in hx (Cs.cos_range ah)
    obtain ⟨si, hsi⟩ : ∃ q, Cs.sin ah = q := ⟨_, rfl⟩
    obtain ⟨co, hco⟩ : ∃ q, Cs.cos ah = q := ⟨_, rfl⟩
    simp only [hsi, hco] at *
    have w1 : IntKind.i64.wrap (dy * si) = dy * si := IntWalk.i64_in _ (by omega)
    have w2 : IntKind.i64.wrap (dx * co) = dx * co := IntWalk.i64_in _ (by omega)
    have HS := Lib.hid hs
    clear hs
    go_enter Tryz.func109, Tryz.ntmps109
    go_wp2
    go_quiet ((first
      | (go_at_call 17; exact Calls.quiet_of_same (HSI.out _ (by first | exact HS.out | exact HS.out.drew | exact HS.out.drewN _)))
      | (go_at_call 19; exact Calls.quiet_of_same (HCO.out _ (by first | exact HS.out | exact HS.out.drew | exact HS.out.drewN _)))))
    go_wp2
    go_ret
    exact ⟨ret_bool (by rw [hd]; rfl), below_drewN (Below.refl _ _) _⟩


theorem cond3_any (a : Cs.Aim) (sq : Int) (ba bs : Nat) (w : World) (ka : Bk w ba 83 (acell a)) (kq : Bk w bs 3 #[.int .i64 sq]) (hf : 0 ≤ a.far * a.far ∧ a.far * a.far ≤ 1144900000000000000) :
    Calls Tryz.prog 110 #[.pointer (some ⟨bs, 0, none⟩), .pointer (some ⟨ba, 0, none⟩)] w fun e w' => e = .returned (.bool (decide (sq ≤ a.far * a.far))) ∧ Below w.heap.size w w' := by
  obtain ⟨al, ah, an, af⟩ := a
  have ka : Bk w ba 83 #[.int .i64 al, .int .i64 ah, .int .i64 an, .int .i64 af] := ka
  have c3 := (ka.cell 3).trans rfl
  have q0 := (kq.cell 0).trans rfl
  have lc := ka.lt
  have lq := kq.lt
  obtain ⟨f0, f1⟩ := hf
  dsimp only at f0 f1 ⊢
  clear ka kq
  go_enter Tryz.func110, Tryz.ntmps110
  go_wp2
  go_ret
  exact ⟨rfl, Below.refl _ _⟩

theorem cond4_any (a : Cs.Aim) (sq : Int) (ba bs : Nat) (w : World) (ka : Bk w ba 83 (acell a)) (kq : Bk w bs 3 #[.int .i64 sq]) (hf : 0 ≤ a.near * a.near ∧ a.near * a.near ≤ 1144900000000000000) :
    Calls Tryz.prog 111 #[.pointer (some ⟨ba, 0, none⟩), .pointer (some ⟨bs, 0, none⟩)] w fun e w' => e = .returned (.bool ((decide (90 < a.high) && decide (a.low < 90)) || decide (a.near * a.near ≤ sq))) ∧ Below w.heap.size w w' := by
  have HNO := Lib.hid fun w => northerly_any a w
  have HSO := Lib.hid fun w => southerly_any a w
  obtain ⟨al, ah, an, af⟩ := a
  have ka : Bk w ba 83 #[.int .i64 al, .int .i64 ah, .int .i64 an, .int .i64 af] := ka
  have c0 := (ka.cell 0).trans rfl
  have c1 := (ka.cell 1).trans rfl
  have c2 := (ka.cell 2).trans rfl
  have c3 := (ka.cell 3).trans rfl
  have lc := ka.lt
  obtain ⟨f0, f1⟩ := hf
  have HKA := Lib.hid ka
  have HKQ := Lib.hid kq
  dsimp only [aval] at f0 f1 HNO HSO ⊢
  clear ka kq
  by_cases h1 : ah ≤ 90
  · have d1 : decide (ah ≤ 90) = true := decide_eq_true h1
    have e1 : decide (90 < ah) = false := decide_eq_false (by omega)
    rw [e1]
    clear h1 e1
    go_enter Tryz.func111, Tryz.ntmps111
    go_wp2_with (go_at_call 99; refine (HNO.out _).mono ?_; rw [d1]; rintro e w1 ⟨rfl, hb1⟩; have q0 := ((HKQ.out.below hb1 HKQ.out.lt).cell 0).trans rfl; have c2 := ((HKA.out.below hb1 HKA.out.lt).cell 2).trans rfl; have lq := HKQ.out.lt)
    go_ret
    exact ⟨ret_bool (by simp), hb1⟩
  · have d1 : decide (ah ≤ 90) = false := decide_eq_false h1
    have e1 : decide (90 < ah) = true := decide_eq_true (by omega)
    rw [e1]
    clear h1 e1
    by_cases h2 : 90 ≤ al
    · have d2 : decide (90 ≤ al) = true := decide_eq_true h2
      have e2 : decide (al < 90) = false := decide_eq_false (by omega)
      rw [e2]
      clear h2 e2
      go_enter Tryz.func111, Tryz.ntmps111
      go_wp2_with (first
        | (go_at_call 99; refine (HNO.out _).mono ?_; rw [d1]; rintro e w1 ⟨rfl, hb1⟩; have kA1 := HKA.out.below hb1 HKA.out.lt; have c0 := (kA1.cell 0).trans rfl; have c1 := (kA1.cell 1).trans rfl; have c2 := (kA1.cell 2).trans rfl; have c3 := (kA1.cell 3).trans rfl; have kQ1 := HKQ.out.below hb1 HKQ.out.lt; have K1 := Lib.hid (And.intro kA1 kQ1); clear kA1 kQ1)
        | (go_at_call 100; refine (HSO.out _).mono ?_; rw [d2]; rintro e w2 ⟨rfl, hb2⟩; have q0 := ((K1.out.2.below hb2 K1.out.2.lt).cell 0).trans rfl; have c2 := ((K1.out.1.below hb2 K1.out.1.lt).cell 2).trans rfl))
      go_ret
      exact ⟨ret_bool (by simp), hb1.trans (hb2.mono hb1.size)⟩
    · have d2 : decide (90 ≤ al) = false := decide_eq_false h2
      have e2 : decide (al < 90) = true := decide_eq_true (by omega)
      rw [e2]
      clear h2 e2
      go_enter Tryz.func111, Tryz.ntmps111
      go_wp2_with (first
        | (go_at_call 99; refine (HNO.out _).mono ?_; rw [d1]; rintro e w1 ⟨rfl, hb1⟩; have kA1 := HKA.out.below hb1 HKA.out.lt; have c0 := (kA1.cell 0).trans rfl; have c1 := (kA1.cell 1).trans rfl; have c2 := (kA1.cell 2).trans rfl; have c3 := (kA1.cell 3).trans rfl; have K1 := Lib.hid kA1; clear kA1)
        | (go_at_call 100; refine (HSO.out _).mono ?_; rw [d2]; rintro e w2 ⟨rfl, hb2⟩))
      go_ret
      exact ⟨ret_bool (by simp), hb1.trans (hb2.mono hb1.size)⟩

end Go.Proofs.YtncdeogpmodoaaaGreatDoor
