/-
  RootUp, Sin and Cos of course and of the reference.
-/
import Derived.Test.YtncdeogpmodoaaaGreatDoorNum
set_option linter.unusedVariables false
set_option linter.unusedSimpArgs false
namespace Go.Proofs.YtncdeogpmodoaaaGreatDoor
open Go.RowKit

/-- The table of sines lies in the variable that the program's text lays. -/
def Sn (w : World) : Prop := 0 < w.heap.size ∧ ∀ k : Nat, k < 91 → w.cell? ⟨0, k, none⟩ = some (.int .i64 (Cs.tb k))
theorem Sn.below {w w' : World} {C : Nat} (h : Sn w) (hb : Below C w w') (hC : 0 < C) : Sn w' :=
  ⟨Nat.lt_of_lt_of_le h.1 hb.size, fun k hk => (hb.cell (p := ⟨0, k, none⟩) hC).trans (h.2 k hk)⟩
theorem Sn.step {w w' : World} (h : Sn w) (hb : Below w.heap.size w w') : Sn w' := h.below hb h.1

theorem rootUp_any (n : Int) (hn : -9223372036854775808 ≤ n) (hn' : n ≤ 9223372036854775807) (w : World) :
    Calls Tryz.prog 23 #[.int .i64 n] w fun e w' => e = .returned (.int .i64 (Cs.rootUp n)) ∧ w = w' := by
  obtain ⟨r0, r1⟩ := Cs.root_le hn'
  have hR := fun w => root_any n hn hn' w
  have hu : Cs.rootUp n = if Cs.root n * Cs.root n < n then Cs.root n + 1 else Cs.root n := rfl
  obtain ⟨r, hr⟩ : ∃ r, Cs.root n = r := ⟨_, rfl⟩
  simp only [hr] at hR hu r0 r1
  have HR := Lib.hid hR
  have hm1 : r * r ≤ 9223372036854775807 := by
    have : r * r ≤ 3037000499 * 3037000499 := Int.mul_le_mul r1 r1 r0 (by decide)
    omega
  have hm0 : 0 ≤ r * r := Int.mul_nonneg r0 r0
  clear hR hr
  by_cases h : r * r < n
  · rw [if_pos h] at hu
    rw [hu]
    clear hu
    go_enter Tryz.func23, Tryz.ntmps23
    go_wp2_with (go_at_call 22; refine (HR.out _).mono ?_; rintro e w' ⟨rfl, rfl⟩)
    go_ret
    exact ⟨rfl, rfl⟩
  · rw [if_neg h] at hu
    rw [hu]
    clear hu
    go_enter Tryz.func23, Tryz.ntmps23
    go_wp2_with (go_at_call 22; refine (HR.out _).mono ?_; rintro e w' ⟨rfl, rfl⟩)
    go_ret
    exact ⟨rfl, rfl⟩

theorem rrootUp_any (n : Int) (hn : -9223372036854775808 ≤ n) (hn' : n ≤ 9223372036854775807) (w : World) :
    Calls Tryz.prog 25 #[.int .i64 n] w fun e w' => e = .returned (.int .i64 (Cs.rootUp n)) ∧ w = w' := by
  obtain ⟨r0, r1⟩ := Cs.root_le hn'
  have hR := fun w => rroot_any n hn hn' w
  have hu : Cs.rootUp n = if Cs.root n * Cs.root n < n then Cs.root n + 1 else Cs.root n := rfl
  obtain ⟨r, hr⟩ : ∃ r, Cs.root n = r := ⟨_, rfl⟩
  simp only [hr] at hR hu r0 r1
  have HR := Lib.hid hR
  have hm1 : r * r ≤ 9223372036854775807 := by
    have : r * r ≤ 3037000499 * 3037000499 := Int.mul_le_mul r1 r1 r0 (by decide)
    omega
  have hm0 : 0 ≤ r * r := Int.mul_nonneg r0 r0
  clear hR hr
  by_cases h : r * r < n
  · rw [if_pos h] at hu
    rw [hu]
    clear hu
    have hn0 : 0 < n := by omega
    go_enter Tryz.func25, Tryz.ntmps25
    go_wp2_with (go_at_call 24; refine (HR.out _).mono ?_; rintro e w' ⟨rfl, rfl⟩)
    go_ret
    exact ⟨rfl, rfl⟩
  · rw [if_neg h] at hu
    rw [hu]
    clear hu
    rcases Int.lt_or_le 0 n with hn0 | hn0
    all_goals
      go_enter Tryz.func25, Tryz.ntmps25
      go_wp2_with (go_at_call 24; refine (HR.out _).mono ?_; rintro e w' ⟨rfl, rfl⟩)
      go_ret
      exact ⟨rfl, rfl⟩

theorem sin_any (d : Int) (w : World) (hs : Sn w) :
    Calls Tryz.prog 17 #[.int .i64 d] w fun e w' => e = .returned (.int .i64 (Cs.sin d)) ∧ w = w' := by
  have hN := fun w => norm_any d w
  obtain ⟨n0, n1⟩ := Cs.norm_range d
  have hu : Cs.sin d = Cs.sinI (Cs.norm d) := rfl
  obtain ⟨n, hn⟩ : ∃ n, Cs.norm d = n := ⟨_, rfl⟩
  simp only [hn] at hN hu n0 n1
  obtain ⟨m, rfl⟩ : ∃ m : Nat, n = m := ⟨n.toNat, by omega⟩
  rw [hu]
  rw [Cs.sinI]
  have HN := Lib.hid hN
  clear hN hn hu n0
  have hl := hs.1
  by_cases h1 : 180 < m
  · rw [if_pos (by omega)]
    by_cases h2 : 90 < m - 180
    · rw [if_pos (by omega)]
      have e := hs.2 (360 - m) (by omega)
      have hb := Cs.tb_range ((360 : Int) - (m : Int))
      rw [show ((360 - m : Nat) : Int) = 360 - (m : Int) by omega] at e
      obtain ⟨x, hx⟩ : ∃ x, Cs.tb ((360 : Int) - (m : Int)) = x := ⟨_, rfl⟩
      rw [hx] at e hb ⊢
      obtain ⟨hb0, hb1⟩ := hb
      have i1 : (180 : Int) < (m : Int) := by omega
      have i2 : (90 : Int) < (m : Int) - 180 := by omega
      have i3 : ((180 : Int) - ((m : Int) - 180)).toNat = 360 - m := by omega
      clear hx hs
      go_enter Tryz.func17, Tryz.ntmps17
      go_wp2_with (go_at_call 15; refine (HN.out _).mono ?_; rintro e w' ⟨rfl, rfl⟩)
      go_ret
      exact ⟨rfl, rfl⟩
    · rw [if_neg (by omega)]
      have e := hs.2 (m - 180) (by omega)
      have hb := Cs.tb_range ((m : Int) - 180)
      rw [show ((m - 180 : Nat) : Int) = (m : Int) - 180 by omega] at e
      obtain ⟨x, hx⟩ : ∃ x, Cs.tb ((m : Int) - 180) = x := ⟨_, rfl⟩
      rw [hx] at e hb ⊢
      obtain ⟨hb0, hb1⟩ := hb
      have i1 : (180 : Int) < (m : Int) := by omega
      have i2 : (m : Int) - 180 ≤ 90 := by omega
      have i3 : ((m : Int) - 180).toNat = m - 180 := by omega
      clear hx hs
      go_enter Tryz.func17, Tryz.ntmps17
      go_wp2_with (go_at_call 15; refine (HN.out _).mono ?_; rintro e w' ⟨rfl, rfl⟩)
      go_ret
      exact ⟨rfl, rfl⟩
  · rw [if_neg (by omega)]
    by_cases h2 : 90 < m
    · rw [if_pos (by omega)]
      have e := hs.2 (180 - m) (by omega)
      have hb := Cs.tb_range ((180 : Int) - (m : Int))
      rw [show ((180 - m : Nat) : Int) = 180 - (m : Int) by omega] at e
      obtain ⟨x, hx⟩ : ∃ x, Cs.tb ((180 : Int) - (m : Int)) = x := ⟨_, rfl⟩
      rw [hx] at e hb ⊢
      obtain ⟨hb0, hb1⟩ := hb
      have i1 : (m : Int) ≤ 180 := by omega
      have i2 : (90 : Int) < (m : Int) := by omega
      have i3 : ((180 : Int) - (m : Int)).toNat = 180 - m := by omega
      clear hx hs
      go_enter Tryz.func17, Tryz.ntmps17
      go_wp2_with (go_at_call 15; refine (HN.out _).mono ?_; rintro e w' ⟨rfl, rfl⟩)
      go_ret
      exact ⟨rfl, rfl⟩
    · rw [if_neg (by omega)]
      have e := hs.2 (m) (by omega)
      have hb := Cs.tb_range ((m : Int))
      obtain ⟨x, hx⟩ : ∃ x, Cs.tb ((m : Int)) = x := ⟨_, rfl⟩
      rw [hx] at e hb ⊢
      obtain ⟨hb0, hb1⟩ := hb
      have i1 : (m : Int) ≤ 180 := by omega
      have i2 : (m : Int) ≤ 90 := by omega
      clear hx hs
      go_enter Tryz.func17, Tryz.ntmps17
      go_wp2_with (go_at_call 15; refine (HN.out _).mono ?_; rintro e w' ⟨rfl, rfl⟩)
      go_ret
      exact ⟨rfl, rfl⟩

theorem cos_any (d : Int) (w : World) (hs : Sn w) :
    Calls Tryz.prog 19 #[.int .i64 d] w fun e w' => e = .returned (.int .i64 (Cs.cos d)) ∧ w = w' := by
  have hN := fun w => norm_any d w
  obtain ⟨n0, n1⟩ := Cs.norm_range d
  have hu : Cs.cos d = Cs.sin (Cs.norm d + 90) := rfl
  rw [hu]
  obtain ⟨n, hn⟩ : ∃ n, Cs.norm d = n := ⟨_, rfl⟩
  simp only [hn] at hN n0 n1 ⊢
  have HN := Lib.hid hN
  have HS := Lib.hid hs
  clear hN hn hu hs
  go_enter Tryz.func19, Tryz.ntmps19
  go_wp2_with (first
    | (go_at_call 15; refine (HN.out _).mono ?_; rintro e w' ⟨rfl, rfl⟩)
    | (go_at_call 17; refine (sin_any (n + 90) _ HS.out).mono ?_; rintro e w' ⟨rfl, rfl⟩))
  go_ret
  exact ⟨rfl, rfl⟩

/-- The reference's table, made anew. -/
def snArr : Array Value := (Cs.T.map (Value.int .i64)).toArray
theorem snArr_at {k : Nat} (hk : k < 91) : snArr[k]? = some (.int .i64 (Cs.tb k)) := by
  have h := Cs.tb_at (k := (k : Int)) (by omega) (by omega)
  rw [Int.toNat_natCast] at h
  simp [snArr, h]
set_option maxRecDepth 100000 in
set_option maxHeartbeats 8000000 in
theorem rsines_any (w : World) :
    Calls Tryz.prog 54 #[] w fun e w' => e = .returned (.slice (some ⟨w.heap.size, 0, none⟩) 91 91) ∧ w' = w.alloc (.cells snArr 3) := by
  go_enter Tryz.func54, Tryz.ntmps54
  go_wp2
  go_ret
  exact ⟨rfl, rfl⟩

set_option maxRecDepth 100000 in
theorem rsin_low (d : Int) (w : World) (h180 : Cs.norm d ≤ 180) :
    Calls Tryz.prog 18 #[.int .i64 d] w fun e w' => e = .returned (.int .i64 (Cs.sin d)) ∧ Below w.heap.size w w' := by
  have hN := fun w => rnorm_any d w
  obtain ⟨n0, n1⟩ := Cs.norm_range d
  have hu : Cs.sin d = Cs.sinI (Cs.norm d) := rfl
  obtain ⟨n, hn⟩ : ∃ n, Cs.norm d = n := ⟨_, rfl⟩
  simp only [hn] at hN hu n0 n1 h180
  obtain ⟨m, rfl⟩ : ∃ m : Nat, n = m := ⟨n.toNat, by omega⟩
  rw [hu]
  rw [Cs.sinI, if_neg (by omega)]
  have HN := Lib.hid hN
  have hB := (Below.refl w.heap.size w).alloc (Nat.le_refl _) (.cells snArr 3)
  have kT := Bk.new w 3 snArr
  have HB := Lib.hid hB
  clear hN hn hu n0 hB
  by_cases h2 : 90 < m
  · rw [if_pos (by omega)]
    have e := (kT.cell (180 - m)).trans (snArr_at (by omega))
    rw [show ((180 - m : Nat) : Int) = 180 - (m : Int) by omega] at e
    obtain ⟨x, hx⟩ : ∃ x, Cs.tb (180 - (m : Int)) = x := ⟨_, rfl⟩
    rw [hx] at e ⊢
    have i1 : (m : Int) ≤ 180 := by omega
    have i2 : (90 : Int) < (m : Int) := by omega
    have i3 : ((180 : Int) - (m : Int)).toNat = 180 - m := by omega
    clear hx kT
    go_enter Tryz.func18, Tryz.ntmps18
    go_wp2_with (first
      | (go_at_call 16; refine (HN.out _).mono ?_; rintro e w' ⟨rfl, rfl⟩)
      | (go_at_call 54; refine (rsines_any _).mono ?_; rintro e w' ⟨rfl, rfl⟩))
    go_ret
    exact ⟨rfl, HB.out⟩
  · rw [if_neg (by omega)]
    have e := (kT.cell m).trans (snArr_at (by omega))
    obtain ⟨x, hx⟩ : ∃ x, Cs.tb (m : Int) = x := ⟨_, rfl⟩
    rw [hx] at e ⊢
    have i1 : (m : Int) ≤ 180 := by omega
    have i2 : (m : Int) ≤ 90 := by omega
    clear hx kT
    go_enter Tryz.func18, Tryz.ntmps18
    go_wp2_with (first
      | (go_at_call 16; refine (HN.out _).mono ?_; rintro e w' ⟨rfl, rfl⟩)
      | (go_at_call 54; refine (rsines_any _).mono ?_; rintro e w' ⟨rfl, rfl⟩))
    go_ret
    exact ⟨rfl, HB.out⟩

theorem Cs.sin_half {d : Int} (h : 180 < Cs.norm d) : Cs.sin d = -(Cs.sin (Cs.norm d - 180)) ∧ Cs.norm (Cs.norm d - 180) = Cs.norm d - 180 := by
  obtain ⟨n0, n1⟩ := Cs.norm_range d
  have e : Cs.norm (Cs.norm d - 180) = Cs.norm d - 180 := by
    show (Cs.norm d - 180) % 360 = Cs.norm d - 180
    omega
  refine ⟨?_, e⟩
  show Cs.sinI (Cs.norm d) = -(Cs.sinI (Cs.norm (Cs.norm d - 180)))
  rw [e]
  obtain ⟨n, hn⟩ : ∃ n, Cs.norm d = n := ⟨_, rfl⟩
  rw [hn] at h n1 ⊢
  unfold Cs.sinI
  rw [if_pos h, if_neg (show ¬ 180 < n - 180 by omega)]
  split
  · rw [show 180 - (n - 180) = 360 - n by omega]
  · rfl
set_option maxRecDepth 100000 in
theorem rsin_any (d : Int) (w : World) :
    Calls Tryz.prog 18 #[.int .i64 d] w fun e w' => e = .returned (.int .i64 (Cs.sin d)) ∧ Below w.heap.size w w' := by
  rcases Int.lt_or_le 180 (Cs.norm d) with h | h
  · obtain ⟨hs, hn2⟩ := Cs.sin_half h
    have hN := fun w => rnorm_any d w
    obtain ⟨n0, n1⟩ := Cs.norm_range d
    have hlow := fun w => rsin_low (Cs.norm d - 180) w (by omega)
    have hr := Cs.sin_range (Cs.norm d - 180)
    rw [hs]
    obtain ⟨n, hn⟩ : ∃ n, Cs.norm d = n := ⟨_, rfl⟩
    simp only [hn] at hN n0 n1 h hlow hr ⊢
    obtain ⟨x, hx⟩ : ∃ x, Cs.sin (n - 180) = x := ⟨_, rfl⟩
    simp only [hx] at hlow hr ⊢
    have HN := Lib.hid hN
    have HL := Lib.hid hlow
    have HB := Lib.hid ((Below.refl w.heap.size w).alloc (Nat.le_refl _) (.cells snArr 3))
    obtain ⟨r0, r1⟩ := hr
    clear hN hn hx hs hn2 hlow
    go_enter Tryz.func18, Tryz.ntmps18
    go_wp2_with (first
      | (go_at_call 16; refine (HN.out _).mono ?_; rintro e w' ⟨rfl, rfl⟩)
      | (go_at_call 54; refine (rsines_any _).mono ?_; rintro e w' ⟨rfl, rfl⟩)
      | (go_at_call 18; refine (HL.out _).mono ?_; rintro e w' ⟨rfl, hb⟩))
    go_ret
    exact ⟨rfl, HB.out.trans (hb.mono HB.out.size)⟩
  · exact rsin_low d w h

set_option maxRecDepth 100000 in
theorem rcos_any (d : Int) (w : World) :
    Calls Tryz.prog 20 #[.int .i64 d] w fun e w' => e = .returned (.int .i64 (Cs.cos d)) ∧ Below w.heap.size w w' := by
  have hN := fun w => rnorm_any d w
  obtain ⟨n0, n1⟩ := Cs.norm_range d
  have hu : Cs.cos d = Cs.sin (Cs.norm d + 90) := rfl
  rw [hu]
  obtain ⟨n, hn⟩ : ∃ n, Cs.norm d = n := ⟨_, rfl⟩
  simp only [hn] at hN n0 n1 ⊢
  have HN := Lib.hid hN
  clear hN hn hu
  go_enter Tryz.func20, Tryz.ntmps20
  go_wp2_with (first
    | (go_at_call 16; refine (HN.out _).mono ?_; rintro e w' ⟨rfl, rfl⟩)
    | (go_at_call 18; refine (rsin_any (n + 90) _).mono ?_; rintro e w' ⟨rfl, hb⟩))
  go_ret
  exact ⟨rfl, hb⟩

end Go.Proofs.YtncdeogpmodoaaaGreatDoor
