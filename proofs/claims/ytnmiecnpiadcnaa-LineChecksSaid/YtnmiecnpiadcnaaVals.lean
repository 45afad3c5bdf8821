/-
  The reference's Values; areValues.
-/
import Derived.Test.YtnmiecnpiadcnaaRefA
set_option linter.unusedVariables false
set_option linter.unusedSimpArgs false
namespace Go.Proofs.Ytnmiecnpiadcnaa
open Go.RowKit

theorem Rd.at0 {w : World} {B : Nat} {A : Option Addr} {l : List Int} (h : Rd w B 1 A l.length (ints l)) (hk : 0 < l.length) :
    ∃ b off, A = some ⟨b, off, none⟩ ∧ b < B ∧ w.cell? ⟨b, off, none⟩ = some (.int .i64 (Ln.gt l 0)) := by
  rw [Ln.gt_eq hk]
  obtain ⟨b, off, e, hb, hc⟩ := h.one hk
  exact ⟨b, off, e, hb, by simpa using hc⟩

def idxF (y : List Int) : Option Nat := (List.range y.length).find? fun i => !(Ln.within (Ln.gt y i) 400000000)
theorem idxF_some {y : List Int} {k : Nat} (hk : k < y.length) (h : ∀ j, j < k → Ln.within (Ln.gt y j) 400000000 = true) (hp : Ln.within (Ln.gt y k) 400000000 = false) : idxF y = some k := by
  rw [idxF, List.find?_range_eq_some]
  exact ⟨by simp [hp], by simpa using hk, fun j hj => by simp [h j hj]⟩
theorem idxF_none {y : List Int} (h : ∀ j, j < y.length → Ln.within (Ln.gt y j) 400000000 = true) : idxF y = none := by
  rw [idxF, List.find?_range_eq_none]
  exact fun j hj => by simp [h j hj]
theorem all_of {y : List Int} (h : ∀ j, j < y.length → Ln.within (Ln.gt y j) 400000000 = true) : y.all (fun v => Ln.within v 400000000) = true := by
  rw [List.all_eq_true]
  intro v hv
  obtain ⟨j, hj, rfl⟩ := List.getElem_of_mem hv
  rw [← Ln.gt_eq hj]
  exact h j hj
theorem not_all_of {y : List Int} {k : Nat} (hk : k < y.length) (hp : Ln.within (Ln.gt y k) 400000000 = false) : y.all (fun v => Ln.within v 400000000) = false := by
  rw [← Bool.not_eq_true, List.all_eq_true]
  intro h
  rw [h (Ln.gt y k) (by rw [Ln.gt_eq hk]; exact List.getElem_mem hk)] at hp
  cases hp
theorem within_eq (v : Int) : (decide (-400000000 ≤ v) && decide (v ≤ 400000000)) = Ln.within v 400000000 := rfl

set_option maxRecDepth 100000 in
set_option maxHeartbeats 1000000 in
theorem rvalues_any (N : Int) (A : Option Addr) (c : Nat) (bs : List Ln.Bd) (A2 : Option Addr) (c2 : Nat) (y : List Int) (w : World) (hY : Rd w w.heap.size 1 A2 y.length (ints y)) (hyl : y.length ≤ 1000000) :
    Calls Try.prog 69 #[.agg #[.int .i64 N, .slice A bs.length c], .slice A2 y.length c2] w fun e w' => e = .returned (.bool (Ln.areV N y)) ∧ Below w.heap.size w w' := by
  have hB0 : Below w.heap.size w (w.alloc (.cells #[.int .i64 N, .slice A bs.length c] 24)) := (Below.refl _ _).alloc (Nat.le_refl _) _
  rcases hN : ((y.length : Int) != N) with _ | _
  · have hN' : (y.length : Int) = N := by simpa using hN
    rcases Nat.eq_zero_or_pos y.length with h0 | h0
    · have hz : ((y.length : Int) == 0) = true := by simp [h0]
      have hres : false = Ln.areV N y := by simp [Ln.areV, h0]
      have HR := Lib.hid hres
      clear hN' h0 hres
      go_enter Try.func69, Try.ntmps69
      go_wp2_with fail
      go_ret
      exact ⟨ret_bool HR.out, hB0⟩
    · have hz : ((y.length : Int) == 0) = false := by rw [beq_eq_false_iff_ne]; omega
      obtain ⟨b0, off0, hA0, hb0, y0⟩ := hY.at0 h0
      have hbW : b0 < (w.alloc (.cells #[.int .i64 N, .slice A bs.length c] 24)).heap.size := by simp; omega
      subst hA0
      rcases hy0 : (Ln.gt y 0 != 0) with _ | _
      · have hres : y.all (fun v => Ln.within v 400000000) = Ln.areV N y := by
          have : Ln.gt y 0 = 0 := by simpa using hy0
          simp [Ln.areV, hN', h0, this]
        have HR := Lib.hid hres
        obtain ⟨v0, hv0⟩ : ∃ v, Ln.gt y 0 = v := ⟨_, rfl⟩
        rw [hv0] at y0 hy0
        clear hres hN' hv0
        go_enter Try.func69, Try.ntmps69
        go_wp2_with fail
        go_loopw [5] (fun i wr => ∃ k : Nat, k ≤ y.length ∧ i = .int .i64 k ∧ (∀ j, j < k → Ln.within (Ln.gt y j) 400000000 = true) ∧ Below w.heap.size w wr)
          (fun i _ => y.length - (intOf i).toNat)
        case atStart => exact ⟨0, Nat.zero_le _, rfl, (fun j hj => absurd hj (by omega)), hB0⟩
        case round =>
          obtain ⟨k, hk, rfl, ha, hB⟩ := hrel
          have HA := Lib.hid ha
          clear ha
          by_cases hkl : k < y.length
          · obtain ⟨b, off, hA, hb, e0⟩ := (hY.below hB (Nat.le_refl _)).one hkl
            obtain ⟨rfl, rfl⟩ : b0 = b ∧ off0 = off := by simpa using hA
            rw [← Ln.gt_eq hkl] at e0
            obtain ⟨v, hv⟩ : ∃ v, Ln.gt y k = v := ⟨_, rfl⟩
            rw [hv] at e0
            have hbb : b0 < wr.heap.size := by have := hB.size; omega
            have HV := Lib.hid hv
            clear hv hA
            rcases hw : Ln.within v 400000000 with _ | _
            · have HW := Lib.hid hw
              clear hw
              go_wp2_with fail
              refine (rwithin_any _ _ _ _).mono ?_
              rw [within_eq, HW.out]
              rintro e wx ⟨rfl, rfl⟩
              go_wp2_with fail
              go_ret
              exact ⟨ret_bool (by rw [← HR.out, not_all_of hkl (by rw [HV.out]; exact HW.out)]), hB⟩
            · have HW := Lib.hid hw
              clear hw
              go_wp2_with fail
              refine (rwithin_any _ _ _ _).mono ?_
              rw [within_eq, HW.out]
              rintro e wx ⟨rfl, rfl⟩
              go_wp2_with fail
              go_roundw
              case rel =>
                refine ⟨k + 1, by omega, by go_num, fun j hj => ?_, hB⟩
                rcases Nat.lt_or_ge j k with h | h
                · exact HA.out j h
                · obtain rfl : j = k := by omega
                  rw [HV.out]
                  exact HW.out
              case measure => simp [intOf]; omega
          · go_wp2_with fail
            go_ret
            obtain rfl : k = y.length := by omega
            exact ⟨ret_bool (by rw [← HR.out, all_of HA.out]), hB⟩
      · have hres : false = Ln.areV N y := by
          have : Ln.gt y 0 ≠ 0 := by simpa using hy0
          simp [Ln.areV, this]
        have HR := Lib.hid hres
        obtain ⟨v0, hv0⟩ : ∃ v, Ln.gt y 0 = v := ⟨_, rfl⟩
        rw [hv0] at y0 hy0
        clear hres hN' hv0
        go_enter Try.func69, Try.ntmps69
        go_wp2_with fail
        go_ret
        exact ⟨ret_bool HR.out, hB0⟩
  · have hres : false = Ln.areV N y := by
      have : (y.length : Int) ≠ N := by simpa using hN
      simp [Ln.areV, this]
    have HR := Lib.hid hres
    clear hres
    go_enter Try.func69, Try.ntmps69
    go_wp2_with fail
    go_ret
    exact ⟨ret_bool HR.out, hB0⟩

end Go.Proofs.Ytnmiecnpiadcnaa
