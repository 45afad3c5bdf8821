/-
  cmp.Compare, slices.Compare, compareLists, at int.
-/
import Derived.Test.YteiaofgkmgllcaaRefA
import Derived.Test.YteiaofgkmgllcaaMath
set_option linter.unusedVariables false
set_option linter.unusedSimpArgs false
namespace Go.Proofs.Yteiaofgkmgllcaa
open Go.RowKit

set_option maxHeartbeats 400000 in
theorem isNaN_any (a : Int) (w : World) :
    Calls Try.prog 95 #[.int .i64 a] w fun x w' => x = .returned (.bool false) ∧ w = w' := by
  go_enter Try.func95, Try.ntmps95
  go_wp2_with fail
  go_ret
  exact ⟨ret_bool (by simp), rfl⟩

set_option maxHeartbeats 400000 in
theorem compare_any (a b : Int) (w : World) :
    Calls Try.prog 89 #[.int .i64 a, .int .i64 b] w fun x w' => x = .returned (.int .i64 (Ln.cmpI a b)) ∧ w = w' := by
  rcases Int.lt_trichotomy a b with h | h | h
  · have e : Ln.cmpI a b = -1 := by rw [Ln.cmpI, if_pos h]
    rw [e]
    clear e
    go_enter Try.func89, Try.ntmps89
    go_wp2_with (go_at_call 95; refine (isNaN_any _ _).mono ?_; rintro e w' ⟨rfl, rfl⟩)
    go_ret
    exact ⟨rfl, rfl⟩
  · have e : Ln.cmpI a b = 0 := by rw [Ln.cmpI, if_neg (by omega), if_neg (by omega)]
    rw [e]
    clear e
    go_enter Try.func89, Try.ntmps89
    go_wp2_with (go_at_call 95; refine (isNaN_any _ _).mono ?_; rintro e w' ⟨rfl, rfl⟩)
    go_ret
    exact ⟨rfl, rfl⟩
  · have e : Ln.cmpI a b = 1 := by rw [Ln.cmpI, if_neg (by omega), if_pos h]
    rw [e]
    clear e
    go_enter Try.func89, Try.ntmps89
    go_wp2_with (go_at_call 95; refine (isNaN_any _ _).mono ?_; rintro e w' ⟨rfl, rfl⟩)
    go_ret
    exact ⟨rfl, rfl⟩

theorem cmpL_short {a b : List Int} {k : Nat} (hk : k < a.length) (hb : b.length ≤ k) : Ln.cmpL (a.drop k) (b.drop k) = 1 := by
  rw [List.drop_eq_getElem_cons hk, List.drop_eq_nil_of_le hb, Ln.cmpL]
theorem cmpL_ne {a b : List Int} {k : Nat} (hk : k < a.length) (hb : k < b.length) (h : Ln.cmpI a[k] b[k] ≠ 0) : Ln.cmpL (a.drop k) (b.drop k) = Ln.cmpI a[k] b[k] := by
  rw [List.drop_eq_getElem_cons hk, List.drop_eq_getElem_cons hb, Ln.cmpL, if_neg h]
theorem cmpL_eq {a b : List Int} {k : Nat} (hk : k < a.length) (hb : k < b.length) (h : Ln.cmpI a[k] b[k] = 0) : Ln.cmpL (a.drop k) (b.drop k) = Ln.cmpL (a.drop (k + 1)) (b.drop (k + 1)) := by
  rw [List.drop_eq_getElem_cons hk, List.drop_eq_getElem_cons hb, Ln.cmpL, if_pos h]
theorem cmpL_end {a b : List Int} (h : a.length < b.length) : Ln.cmpL (a.drop a.length) (b.drop a.length) = -1 := by
  rw [List.drop_eq_nil_of_le (Nat.le_refl _), List.drop_eq_getElem_cons h, Ln.cmpL]
theorem cmpL_both {a b : List Int} (h : b.length ≤ a.length) : Ln.cmpL (a.drop a.length) (b.drop a.length) = 0 := by
  rw [List.drop_eq_nil_of_le (Nat.le_refl _), List.drop_eq_nil_of_le h, Ln.cmpL]

set_option maxRecDepth 100000 in
set_option maxHeartbeats 1000000 in
theorem sliceCompare_any (A1 : Option Addr) (c1 : Nat) (a : List Int) (A2 : Option Addr) (c2 : Nat) (b : List Int) (w : World) (hA : Rd w w.heap.size 1 A1 a.length (ints a)) (hB : Rd w w.heap.size 1 A2 b.length (ints b)) (hla : a.length ≤ 1000000) (hlb : b.length ≤ 1000000) :
    Calls Try.prog 90 #[.slice A1 a.length c1, .slice A2 b.length c2] w fun e w' => e = .returned (.int .i64 (Ln.cmpL a b)) ∧ w = w' := by
  go_enter Try.func90, Try.ntmps90
  go_wp2_with fail
  go_loop [11] (fun i => ∃ k : Nat, k ≤ a.length ∧ k ≤ b.length ∧ i = .int .i64 k ∧ Ln.cmpL a b = Ln.cmpL (a.drop k) (b.drop k))
    (fun i => a.length - (intOf i).toNat)
  case atStart => exact ⟨0, Nat.zero_le _, Nat.zero_le _, rfl, by simp⟩
  case round =>
    obtain ⟨k, hk, hkb, rfl, ha⟩ := hrel
    have HA := Lib.hid ha
    clear ha
    by_cases hkl : k < a.length
    · by_cases hkl2 : k < b.length
      · obtain ⟨ba, oa, rfl, _, ea⟩ := hA.one hkl
        obtain ⟨bb, ob, rfl, _, eb⟩ := hB.one hkl2
        have h0 := cmpL_ne hkl hkl2
        have h1 := cmpL_eq hkl hkl2
        obtain ⟨x, hx⟩ : ∃ x, a[k] = x := ⟨_, rfl⟩
        obtain ⟨y, hy⟩ : ∃ y, b[k] = y := ⟨_, rfl⟩
        rw [hx] at ea h0 h1
        rw [hy] at eb h0 h1
        obtain ⟨c, hc⟩ : ∃ c, Ln.cmpI x y = c := ⟨_, rfl⟩
        rw [hc] at h0 h1
        have HC := Lib.hid hc
        have H0 := Lib.hid h0
        have H1 := Lib.hid h1
        clear h0 h1 hx hy hc
        rcases hcc : (c != 0) with _ | _
        · have hcz : c = 0 := by simpa using hcc
          have HCC := Lib.hid hcz
          clear hcz
          go_wp2_with fail
          refine (compare_any _ _ _).mono ?_
          rw [HC.out]
          rintro e wx ⟨rfl, rfl⟩
          go_wp2_with fail
          go_round
          case rel => exact ⟨k + 1, by omega, by omega, by go_num, HA.out.trans (H1.out HCC.out)⟩
          case measure => simp [intOf]; omega
        · have hcz : c ≠ 0 := by simpa using hcc
          have HCC := Lib.hid hcz
          clear hcz
          go_wp2_with fail
          refine (compare_any _ _ _).mono ?_
          rw [HC.out]
          rintro e wx ⟨rfl, rfl⟩
          go_wp2_with fail
          go_ret
          exact ⟨ret_int (HA.out.trans (H0.out HCC.out)).symm, rfl⟩
      · obtain ⟨ba, oa, rfl, _, ea⟩ := hA.one hkl
        have hz := Lib.hid (HA.out.trans (cmpL_short hkl (by omega)))
        clear HA
        go_wp2_with fail
        go_ret
        exact ⟨ret_int hz.out.symm, rfl⟩
    · obtain rfl : k = a.length := by omega
      by_cases hl : a.length < b.length
      · have hz := Lib.hid (HA.out.trans (cmpL_end hl))
        clear HA
        go_wp2_with fail
        go_ret
        exact ⟨ret_int hz.out.symm, rfl⟩
      · have hz := Lib.hid (HA.out.trans (cmpL_both (by omega)))
        clear HA
        go_wp2_with fail
        go_ret
        exact ⟨ret_int hz.out.symm, rfl⟩

set_option maxHeartbeats 400000 in
theorem compareLists_any (A1 : Option Addr) (c1 : Nat) (a : List Int) (A2 : Option Addr) (c2 : Nat) (b : List Int) (w : World) (hA : Rd w w.heap.size 1 A1 a.length (ints a)) (hB : Rd w w.heap.size 1 A2 b.length (ints b)) (hla : a.length ≤ 1000000) (hlb : b.length ≤ 1000000) :
    Calls Try.prog 68 #[.slice A1 a.length c1, .slice A2 b.length c2] w fun e w' => e = .returned (.int .i64 (Ln.clF a b)) ∧ w = w' := by
  unfold Ln.clF
  obtain ⟨c, hc⟩ : ∃ c, Ln.cmpI a.length b.length = c := ⟨_, rfl⟩
  rw [hc]
  have HC := Lib.hid hc
  clear hc
  rcases hcc : (c != 0) with _ | _
  · have hcz : c = 0 := by simpa using hcc
    rw [if_pos hcz]
    clear hcz
    go_enter Try.func68, Try.ntmps68
    go_wp2_with fail
    refine (compare_any _ _ _).mono ?_
    rw [HC.out]
    rintro e wx ⟨rfl, rfl⟩
    go_wp2_with fail
    refine (sliceCompare_any _ _ _ _ _ _ _ hA hB hla hlb).mono ?_
    rintro e wx ⟨rfl, rfl⟩
    go_wp2_with fail
    go_ret
    exact ⟨rfl, rfl⟩
  · have hcz : c ≠ 0 := by simpa using hcc
    rw [if_neg hcz]
    clear hcz
    go_enter Try.func68, Try.ntmps68
    go_wp2_with fail
    refine (compare_any _ _ _).mono ?_
    rw [HC.out]
    rintro e wx ⟨rfl, rfl⟩
    go_wp2_with fail
    go_ret
    exact ⟨rfl, rfl⟩

end Go.Proofs.Yteiaofgkmgllcaa
