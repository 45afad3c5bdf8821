/-
  Check.
-/
import Derived.Test.YteiaofgkmgllcaaPure
set_option linter.unusedVariables false
set_option linter.unusedSimpArgs false
namespace Go.Proofs.Yteiaofgkmgllcaa
open Go.RowKit

theorem check_2 {N : Int} {bs : List Ln.Bd} (h : 128 < N ∨ 2000 < bs.length) : (2 : Int) = Ln.check N bs := by rw [Ln.check, if_pos h]
theorem check_1 {N : Int} {bs : List Ln.Bd} (h : ¬ (128 < N ∨ 2000 < bs.length)) (h1 : N < 1) : (1 : Int) = Ln.check N bs := by rw [Ln.check, if_neg h, if_pos h1]
theorem check_bad {N : Int} {bs : List Ln.Bd} (h : ¬ (128 < N ∨ 2000 < bs.length)) (h1 : ¬ N < 1) {k : Nat} (hk : k < bs.length) (hv : Ln.valid N bs[k] = false) : (1 : Int) = Ln.check N bs := by
  rw [Ln.check, if_neg h, if_neg h1, if_neg]
  intro ha
  rw [List.all_eq_true.1 ha _ (List.getElem_mem hk)] at hv
  cases hv
theorem check_ok {N : Int} {bs : List Ln.Bd} (h : ¬ (128 < N ∨ 2000 < bs.length)) (h1 : ¬ N < 1) (ha : (bs.take bs.length).all (Ln.valid N) = true) : (0 : Int) = Ln.check N bs := by
  rw [List.take_length] at ha
  rw [Ln.check, if_neg h, if_neg h1, if_pos ha]
theorem all_take {N : Int} {bs : List Ln.Bd} {k : Nat} (hk : k < bs.length) (ha : (bs.take k).all (Ln.valid N) = true) (hv : Ln.valid N bs[k] = true) : (bs.take (k + 1)).all (Ln.valid N) = true := by
  rw [List.take_succ_eq_append_getElem hk, List.all_append, ha, List.all_cons, hv]
  rfl

set_option maxHeartbeats 400000 in
theorem check_any (N : Int) (A : Option Addr) (c : Nat) (bs : List Ln.Bd) (w : World) (hR : Rd w w.heap.size 4 A bs.length (bcells bs)) (hc : bs.length ≤ 1000000) :
    Calls Try.prog 33 #[.agg #[.int .i64 N, .slice A bs.length c]] w fun e w' => e = .returned (.int .i64 (Ln.check N bs)) ∧ Below w.heap.size w w' := by
  rcases Int.lt_or_le 128 N with h1 | h1
  · go_enter Try.func33, Try.ntmps33
    go_wp2_with fail
    go_ret
    exact ⟨ret_int (check_2 (.inl h1)), (Below.refl _ _).alloc (Nat.le_refl _) _⟩
  · rcases Nat.lt_or_ge 2000 bs.length with h2 | h2
    · go_enter Try.func33, Try.ntmps33
      go_wp2_with fail
      go_ret
      exact ⟨ret_int (check_2 (.inr h2)), (Below.refl _ _).alloc (Nat.le_refl _) _⟩
    · rcases Int.lt_or_le N 1 with h3 | h3
      · go_enter Try.func33, Try.ntmps33
        go_wp2_with fail
        go_ret
        exact ⟨ret_int (check_1 (by omega) h3), (Below.refl _ _).alloc (Nat.le_refl _) _⟩
      · go_enter Try.func33, Try.ntmps33
        go_wp2_with fail
        have hB0 : Below w.heap.size w (w.alloc (.cells #[.int .i64 N, .slice A bs.length c] 24)) := (Below.refl _ _).alloc (Nat.le_refl _) _
        go_loopw [20] (fun i wr => ∃ k : Nat, k ≤ bs.length ∧ i = .int .i64 k ∧ (bs.take k).all (Ln.valid N) = true ∧ Below w.heap.size w wr ∧ Bk wr w.heap.size 24 #[.int .i64 N, .slice A bs.length c])
          (fun i _ => bs.length - (intOf i).toNat)
        case atStart => exact ⟨0, Nat.zero_le _, rfl, rfl, hB0, Bk.new _ _ _⟩
        case round =>
          obtain ⟨k, hk, rfl, ha, hB, hK⟩ := hrel
          have hlt := hK.lt
          by_cases hkl : k < bs.length
          · obtain ⟨b, off, rfl, hb, e0, e1, e2, e3⟩ := (hR.below hB (Nat.le_refl _)).bound hkl
            have c0 := hK.cell 0
            have hat := all_take hkl ha
            have hbad := check_bad (N := N) (by omega) (by omega) hkl
            obtain ⟨bd, hbd⟩ : ∃ bd, bs[k] = bd := ⟨_, rfl⟩
            rw [hbd] at e0 e1 e2 e3 hat hbad
            obtain ⟨f, t, m, r, gx⟩ := bd
            have HA := Lib.hid hat
            have HB := Lib.hid hbad
            clear hat hbad hbd ha
            have hB1 : Below w.heap.size wr (wr.alloc (.cells #[.int .i64 f, .int .i64 t, .int .i64 m, .int .i64 r] 50)) := (Below.refl _ _).alloc (by omega) _
            rcases hv : Ln.valid N ⟨f, t, m, r, gx⟩ with _ | _
            · go_wp2_with (first | (go_at_call 65; refine (valid_any (gx := gx) _ _ _ _ _ _).mono ?_; rintro e w1 ⟨rfl, hb1⟩))
              go_ret
              exact ⟨ret_int (HB.out hv), hB.trans (hB1.trans (hb1.mono (by simp; omega)))⟩
            · go_wp2_with (first | (go_at_call 65; refine (valid_any (gx := gx) _ _ _ _ _ _).mono ?_; rintro e w1 ⟨rfl, hb1⟩))
              have hb2 := hB1.trans (hb1.mono (by simp; omega))
              go_roundw
              case rel => exact ⟨k + 1, by omega, by go_num, HA.out hv, hB.trans hb2, (hK.alloc _).below hb1 (by simp; omega)⟩
              case measure => simp [intOf]; omega
          · go_wp2_with (fail)
            go_ret
            obtain rfl : k = bs.length := by omega
            exact ⟨ret_int (check_ok (by omega) (by omega) ha), hB⟩

end Go.Proofs.Yteiaofgkmgllcaa
