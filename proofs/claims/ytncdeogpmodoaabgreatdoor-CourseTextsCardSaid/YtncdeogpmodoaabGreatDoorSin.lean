/-
  RootUp, Sin and Cos of course and of the reference.
-/
import Derived.Test.YtncdeogpmodoaabGreatDoorNum
set_option linter.unusedVariables false
set_option linter.unusedSimpArgs false
namespace Go.Proofs.YtncdeogpmodoaabGreatDoor
open Go.RowKit

/-- The table of sines lies in the variable that the program's text lays. -/
def Sn (w : World) : Prop := 0 < w.heap.size ∧ ∀ k : Nat, k < 91 → w.cell? ⟨0, k, none⟩ = some (.int .i64 (Cs.tb k))
theorem Sn.below {w w' : World} {C : Nat} (h : Sn w) (hb : Below C w w') (hC : 0 < C) : Sn w' :=
  ⟨Nat.lt_of_lt_of_le h.1 hb.size, fun k hk => (hb.cell (p := ⟨0, k, none⟩) hC).trans (h.2 k hk)⟩
theorem Sn.step {w w' : World} (h : Sn w) (hb : Below w.heap.size w w') : Sn w' := h.below hb h.1

theorem rootUp_any (n : Int) (hn : -9223372036854775808 ≤ n) (hn' : n ≤ 9223372036854775807) (w : World) :
    Calls Tryz.prog 36 #[.int .i64 n] w fun e w' => e = .returned (.int .i64 (Cs.rootUp n)) ∧ w = w' := by
  obtain ⟨r0, r1⟩ := Cs.root_le hn'
  have hR := fun w => root_any n hn hn' w
  have hu : Cs.rootUp n = if Cs.root n * Cs.root n < n then Cs.root n + 1 else Cs.root n := rfl
  obtain ⟨r, hr⟩ : ∃ r, Cs.root n = r := ⟨_, rfl⟩
  simp only [hr] at hR hu r0 r1
  have HR := Lib.hid hR
  have hm1 : r * r ≤ 9223372036854775807 := by
    have : r * r ≤ 3037000499 * 3037000499 := Int.mul_le_mul r1 r1 r0 (by decide)
    omega
  have hm0 : 0 ≤ r * r := Int.mul_nonneg r0 r0
  clear hR hr
  by_cases h : r * r < n
  · rw [if_pos h] at hu
    rw [hu]
    clear hu
    go_enter Tryz.func36, Tryz.ntmps36
    go_wp2_with (go_at_call 55; refine (HR.out _).mono ?_; rintro e w' ⟨rfl, rfl⟩)
    go_ret
    exact ⟨rfl, rfl⟩
  · rw [if_neg h] at hu
    rw [hu]
    clear hu
    go_enter Tryz.func36, Tryz.ntmps36
    go_wp2_with (go_at_call 55; refine (HR.out _).mono ?_; rintro e w' ⟨rfl, rfl⟩)
    go_ret
    exact ⟨rfl, rfl⟩

theorem sin_any (d : Int) (w : World) (hs : Sn w) :
    Calls Tryz.prog 34 #[.int .i64 d] w fun e w' => e = .returned (.int .i64 (Cs.sin d)) ∧ w = w' := by
  have hN := fun w => norm_any d w
  obtain ⟨n0, n1⟩ := Cs.norm_range d
  have hu : Cs.sin d = Cs.sinI (Cs.norm d) := rfl
  obtain ⟨n, hn⟩ : ∃ n, Cs.norm d = n := ⟨_, rfl⟩
  simp only [hn] at hN hu n0 n1
  obtain ⟨m, rfl⟩ : ∃ m : Nat, n = m := ⟨n.toNat, by omega⟩
  rw [hu]
  rw [Cs.sinI]
  have HN := Lib.hid hN
  clear hN hn hu n0
  have hl := hs.1
  by_cases h1 : 180 < m
  · rw [if_pos (by omega)]
    by_cases h2 : 90 < m - 180
    · rw [if_pos (by omega)]
      have e := hs.2 (360 - m) (by omega)
      have hb := Cs.tb_range ((360 : Int) - (m : Int))
      rw [show ((360 - m : Nat) : Int) = 360 - (m : Int) by omega] at e
      obtain ⟨x, hx⟩ : ∃ x, Cs.tb ((360 : Int) - (m : Int)) = x := ⟨_, rfl⟩
      rw [hx] at e hb ⊢
      obtain ⟨hb0, hb1⟩ := hb
      have i1 : (180 : Int) < (m : Int) := by omega
      have i2 : (90 : Int) < (m : Int) - 180 := by omega
      have i3 : ((180 : Int) - ((m : Int) - 180)).toNat = 360 - m := by omega
      clear hx hs
      go_enter Tryz.func34, Tryz.ntmps34
      go_wp2_with (go_at_call 28; refine (HN.out _).mono ?_; rintro e w' ⟨rfl, rfl⟩)
      go_ret
      exact ⟨rfl, rfl⟩
    · rw [if_neg (by omega)]
      have e := hs.2 (m - 180) (by omega)
      have hb := Cs.tb_range ((m : Int) - 180)
      rw [show ((m - 180 : Nat) : Int) = (m : Int) - 180 by omega] at e
      obtain ⟨x, hx⟩ : ∃ x, Cs.tb ((m : Int) - 180) = x := ⟨_, rfl⟩
      rw [hx] at e hb ⊢
      obtain ⟨hb0, hb1⟩ := hb
      have i1 : (180 : Int) < (m : Int) := by omega
      have i2 : (m : Int) - 180 ≤ 90 := by omega
      have i3 : ((m : Int) - 180).toNat = m - 180 := by omega
      clear hx hs
      go_enter Tryz.func34, Tryz.ntmps34
      go_wp2_with (go_at_call 28; refine (HN.out _).mono ?_; rintro e w' ⟨rfl, rfl⟩)
      go_ret
      exact ⟨rfl, rfl⟩
  · rw [if_neg (by omega)]
    by_cases h2 : 90 < m
    · rw [if_pos (by omega)]
      have e := hs.2 (180 - m) (by omega)
      have hb := Cs.tb_range ((180 : Int) - (m : Int))
      rw [show ((180 - m : Nat) : Int) = 180 - (m : Int) by omega] at e
      obtain ⟨x, hx⟩ : ∃ x, Cs.tb ((180 : Int) - (m : Int)) = x := ⟨_, rfl⟩
      rw [hx] at e hb ⊢
      obtain ⟨hb0, hb1⟩ := hb
      have i1 : (m : Int) ≤ 180 := by omega
      have i2 : (90 : Int) < (m : Int) := by omega
      have i3 : ((180 : Int) - (m : Int)).toNat = 180 - m := by omega
      clear hx hs
      go_enter Tryz.func34, Tryz.ntmps34
      go_wp2_with (go_at_call 28; refine (HN.out _).mono ?_; rintro e w' ⟨rfl, rfl⟩)
      go_ret
      exact ⟨rfl, rfl⟩
    · rw [if_neg (by omega)]
      have e := hs.2 (m) (by omega)
      have hb := Cs.tb_range ((m : Int))
      obtain ⟨x, hx⟩ : ∃ x, Cs.tb ((m : Int)) = x := ⟨_, rfl⟩
      rw [hx] at e hb ⊢
      obtain ⟨hb0, hb1⟩ := hb
      have i1 : (m : Int) ≤ 180 := by omega
      have i2 : (m : Int) ≤ 90 := by omega
      clear hx hs
      go_enter Tryz.func34, Tryz.ntmps34
      go_wp2_with (go_at_call 28; refine (HN.out _).mono ?_; rintro e w' ⟨rfl, rfl⟩)
      go_ret
      exact ⟨rfl, rfl⟩

theorem cos_any (d : Int) (w : World) (hs : Sn w) :
    Calls Tryz.prog 35 #[.int .i64 d] w fun e w' => e = .returned (.int .i64 (Cs.cos d)) ∧ w = w' := by
  have hN := fun w => norm_any d w
  obtain ⟨n0, n1⟩ := Cs.norm_range d
  have hu : Cs.cos d = Cs.sin (Cs.norm d + 90) := rfl
  rw [hu]
  obtain ⟨n, hn⟩ : ∃ n, Cs.norm d = n := ⟨_, rfl⟩
  simp only [hn] at hN n0 n1 ⊢
  have HN := Lib.hid hN
  have HS := Lib.hid hs
  clear hN hn hu hs
  go_enter Tryz.func35, Tryz.ntmps35
  go_wp2_with (first
    | (go_at_call 28; refine (HN.out _).mono ?_; rintro e w' ⟨rfl, rfl⟩)
    | (go_at_call 34; refine (sin_any (n + 90) _ HS.out).mono ?_; rintro e w' ⟨rfl, rfl⟩))
  go_ret
  exact ⟨rfl, rfl⟩

/-- The reference's table, made anew. -/
def snArr : Array Value := (Cs.T.map (Value.int .i64)).toArray
theorem snArr_at {k : Nat} (hk : k < 91) : snArr[k]? = some (.int .i64 (Cs.tb k)) := by
  have h := Cs.tb_at (k := (k : Int)) (by omega) (by omega)
  rw [Int.toNat_natCast] at h
  simp [snArr, h]
theorem Cs.sin_half {d : Int} (h : 180 < Cs.norm d) : Cs.sin d = -(Cs.sin (Cs.norm d - 180)) ∧ Cs.norm (Cs.norm d - 180) = Cs.norm d - 180 := by
  obtain ⟨n0, n1⟩ := Cs.norm_range d
  have e : Cs.norm (Cs.norm d - 180) = Cs.norm d - 180 := by
    show (Cs.norm d - 180) % 360 = Cs.norm d - 180
    omega
  refine ⟨?_, e⟩
  show Cs.sinI (Cs.norm d) = -(Cs.sinI (Cs.norm (Cs.norm d - 180)))
  rw [e]
  obtain ⟨n, hn⟩ : ∃ n, Cs.norm d = n := ⟨_, rfl⟩
  rw [hn] at h n1 ⊢
  unfold Cs.sinI
  rw [if_pos h, if_neg (show ¬ 180 < n - 180 by omega)]
  split
  · rw [show 180 - (n - 180) = 360 - n by omega]
  · rfl
end Go.Proofs.YtncdeogpmodoaabGreatDoor
