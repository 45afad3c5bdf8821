/-
  The reference's within, Check, SameInts.
-/
import Derived.Test.YteiaofgkmgllcaaCheck
import Derived.Test.YteiaofgkmgllcaaSpan
set_option linter.unusedVariables false
set_option linter.unusedSimpArgs false
namespace Go.Proofs.Yteiaofgkmgllcaa
open Go.RowKit

set_option maxHeartbeats 400000 in
theorem rwithin_any (x lo hi : Int) (w : World) :
    Calls Try.prog 67 #[.int .i64 x, .int .i64 lo, .int .i64 hi] w fun e w' => e = .returned (.bool (decide (lo ≤ x) && decide (x ≤ hi))) ∧ w = w' := by
  by_cases h : lo ≤ x
  · go_enter Try.func67, Try.ntmps67
    go_wp2
    go_ret
    exact ⟨by simp [h], rfl⟩
  · go_enter Try.func67, Try.ntmps67
    go_wp2
    go_ret
    exact ⟨by simp; omega, rfl⟩

theorem rvalid {N : Int} {f t m r : Int} {gx : Bool} : Ln.valid N ⟨f, t, m, r, gx⟩ = ((decide (0 ≤ f) && decide (f ≤ N - 1)) && ((decide (0 ≤ t) && decide (t ≤ N - 1)) && ((decide (-1000000 ≤ m) && decide (m ≤ 1000000)) && ((decide (0 ≤ r) && decide (r ≤ 1000000)) && !(f == t))))) := by
  rw [Bool.eq_iff_iff, Ln.valid_iff]
  simp
  omega

set_option maxRecDepth 100000 in
set_option maxHeartbeats 2000000 in
theorem rcheck_any (N : Int) (A : Option Addr) (c : Nat) (bs : List Ln.Bd) (w : World) (hR : Rd w w.heap.size 4 A bs.length (bcells bs)) (hc : bs.length ≤ 1000000) :
    Calls Try.prog 36 #[.agg #[.int .i64 N, .slice A bs.length c]] w fun e w' => e = .returned (.int .i64 (Ln.check N bs)) ∧ Below w.heap.size w w' := by
  rcases Int.lt_or_le 128 N with h1 | h1
  · go_enter Try.func36, Try.ntmps36
    go_wp2_with fail
    go_ret
    exact ⟨ret_int (check_2 (.inl h1)), (Below.refl _ _).alloc (Nat.le_refl _) _⟩
  · rcases Nat.lt_or_ge 2000 bs.length with h2 | h2
    · go_enter Try.func36, Try.ntmps36
      go_wp2_with fail
      go_ret
      exact ⟨ret_int (check_2 (.inr h2)), (Below.refl _ _).alloc (Nat.le_refl _) _⟩
    · rcases Int.lt_or_le N 1 with h3 | h3
      · go_enter Try.func36, Try.ntmps36
        go_wp2_with fail
        go_ret
        exact ⟨ret_int (check_1 (by omega) h3), (Below.refl _ _).alloc (Nat.le_refl _) _⟩
      · go_enter Try.func36, Try.ntmps36
        go_wp2_with fail
        have hB0 : Below w.heap.size w (w.alloc (.cells #[.int .i64 N, .slice A bs.length c] 24)) := (Below.refl _ _).alloc (Nat.le_refl _) _
        go_loopw [3] (fun i wr => ∃ k : Nat, k ≤ bs.length ∧ i = .int .i64 k ∧ (bs.take k).all (Ln.valid N) = true ∧ Below w.heap.size w wr ∧ Bk wr w.heap.size 24 #[.int .i64 N, .slice A bs.length c])
          (fun i _ => bs.length - (intOf i).toNat)
        case atStart => exact ⟨0, Nat.zero_le _, rfl, rfl, hB0, Bk.new _ _ _⟩
        case round =>
          obtain ⟨k, hk, rfl, ha, hB, hK⟩ := hrel
          have hlt := hK.lt
          have c0 := hK.cell 0
          have c1 := hK.cell 1
          simp only [List.getElem?_toArray, List.getElem?_cons_zero, List.getElem?_cons_succ] at c0 c1
          by_cases hkl : k < bs.length
          · obtain ⟨b, off, rfl, hb, e0, e1, e2, e3⟩ := (hR.below hB (Nat.le_refl _)).bound hkl
            have hat := all_take hkl ha
            have hbad := check_bad (N := N) (by omega) (by omega) hkl
            obtain ⟨bd, hbd⟩ : ∃ bd, bs[k] = bd := ⟨_, rfl⟩
            rw [hbd] at e0 e1 e2 e3 hat hbad
            obtain ⟨f, t, m, r, gx⟩ := bd
            have HA := Lib.hid hat
            have HB := Lib.hid hbad
            clear hat hbad hbd ha
            have hB1 : Below w.heap.size wr (wr.alloc (.cells #[.int .i64 f, .int .i64 t, .int .i64 m, .int .i64 r] 50)) := (Below.refl _ _).alloc (by omega) _
            have hv := @rvalid N f t m r gx
            have HV := Lib.hid hv
            clear hv
            rcases w1 : (decide (0 ≤ f) && decide (f ≤ N - 1)) with _ | _
            · have hval : Ln.valid N ⟨f, t, m, r, gx⟩ = false := by rw [HV.out, w1]; simp
              have W1 := Lib.hid w1
              have HVAL := Lib.hid hval
              clear hval w1
              go_wp2_with fail
              refine (rwithin_any _ _ _ _).mono ?_
              rw [W1.out]
              rintro e wx ⟨rfl, rfl⟩
              go_wp2_with fail
              go_ret
              exact ⟨ret_int (HB.out HVAL.out), hB.trans hB1⟩
            · rcases w2 : (decide (0 ≤ t) && decide (t ≤ N - 1)) with _ | _
              · have hval : Ln.valid N ⟨f, t, m, r, gx⟩ = false := by rw [HV.out, w1, w2]; simp
                have W1 := Lib.hid w1
                have W2 := Lib.hid w2
                have HVAL := Lib.hid hval
                clear hval w1 w2
                go_wp2_with fail
                refine (rwithin_any _ _ _ _).mono ?_
                rw [W1.out]
                rintro e wx ⟨rfl, rfl⟩
                go_wp2_with fail
                refine (rwithin_any _ _ _ _).mono ?_
                rw [W2.out]
                rintro e wx ⟨rfl, rfl⟩
                go_wp2_with fail
                go_ret
                exact ⟨ret_int (HB.out HVAL.out), hB.trans hB1⟩
              · rcases w3 : (decide (-1000000 ≤ m) && decide (m ≤ 1000000)) with _ | _
                · have hval : Ln.valid N ⟨f, t, m, r, gx⟩ = false := by rw [HV.out, w1, w2, w3]; simp
                  have W1 := Lib.hid w1
                  have W2 := Lib.hid w2
                  have W3 := Lib.hid w3
                  have HVAL := Lib.hid hval
                  clear hval w1 w2 w3
                  go_wp2_with fail
                  refine (rwithin_any _ _ _ _).mono ?_
                  rw [W1.out]
                  rintro e wx ⟨rfl, rfl⟩
                  go_wp2_with fail
                  refine (rwithin_any _ _ _ _).mono ?_
                  rw [W2.out]
                  rintro e wx ⟨rfl, rfl⟩
                  go_wp2_with fail
                  refine (rwithin_any _ _ _ _).mono ?_
                  rw [W3.out]
                  rintro e wx ⟨rfl, rfl⟩
                  go_wp2_with fail
                  go_ret
                  exact ⟨ret_int (HB.out HVAL.out), hB.trans hB1⟩
                · rcases w4 : (decide (0 ≤ r) && decide (r ≤ 1000000)) with _ | _
                  · have hval : Ln.valid N ⟨f, t, m, r, gx⟩ = false := by rw [HV.out, w1, w2, w3, w4]; simp
                    have W1 := Lib.hid w1
                    have W2 := Lib.hid w2
                    have W3 := Lib.hid w3
                    have W4 := Lib.hid w4
                    have HVAL := Lib.hid hval
                    clear hval w1 w2 w3 w4
                    go_wp2_with fail
                    refine (rwithin_any _ _ _ _).mono ?_
                    rw [W1.out]
                    rintro e wx ⟨rfl, rfl⟩
                    go_wp2_with fail
                    refine (rwithin_any _ _ _ _).mono ?_
                    rw [W2.out]
                    rintro e wx ⟨rfl, rfl⟩
                    go_wp2_with fail
                    refine (rwithin_any _ _ _ _).mono ?_
                    rw [W3.out]
                    rintro e wx ⟨rfl, rfl⟩
                    go_wp2_with fail
                    refine (rwithin_any _ _ _ _).mono ?_
                    rw [W4.out]
                    rintro e wx ⟨rfl, rfl⟩
                    go_wp2_with fail
                    go_ret
                    exact ⟨ret_int (HB.out HVAL.out), hB.trans hB1⟩
                  · rcases w5 : (f == t) with _ | _
                    · have hval : Ln.valid N ⟨f, t, m, r, gx⟩ = true := by rw [HV.out, w1, w2, w3, w4, w5]; rfl
                      have W1 := Lib.hid w1
                      have W2 := Lib.hid w2
                      have W3 := Lib.hid w3
                      have W4 := Lib.hid w4
                      have HVAL := Lib.hid hval
                      clear hval w1 w2 w3 w4
                      go_wp2_with fail
                      refine (rwithin_any _ _ _ _).mono ?_
                      rw [W1.out]
                      rintro e wx ⟨rfl, rfl⟩
                      go_wp2_with fail
                      refine (rwithin_any _ _ _ _).mono ?_
                      rw [W2.out]
                      rintro e wx ⟨rfl, rfl⟩
                      go_wp2_with fail
                      refine (rwithin_any _ _ _ _).mono ?_
                      rw [W3.out]
                      rintro e wx ⟨rfl, rfl⟩
                      go_wp2_with fail
                      refine (rwithin_any _ _ _ _).mono ?_
                      rw [W4.out]
                      rintro e wx ⟨rfl, rfl⟩
                      go_wp2_with fail
                      go_roundw
                      case rel => exact ⟨k + 1, by omega, by go_num, HA.out HVAL.out, hB.trans hB1, hK.alloc _⟩
                      case measure => simp [intOf]; omega
                    · have hval : Ln.valid N ⟨f, t, m, r, gx⟩ = false := by rw [HV.out, w1, w2, w3, w4, w5]; simp
                      have W1 := Lib.hid w1
                      have W2 := Lib.hid w2
                      have W3 := Lib.hid w3
                      have W4 := Lib.hid w4
                      have HVAL := Lib.hid hval
                      clear hval w1 w2 w3 w4
                      go_wp2_with fail
                      refine (rwithin_any _ _ _ _).mono ?_
                      rw [W1.out]
                      rintro e wx ⟨rfl, rfl⟩
                      go_wp2_with fail
                      refine (rwithin_any _ _ _ _).mono ?_
                      rw [W2.out]
                      rintro e wx ⟨rfl, rfl⟩
                      go_wp2_with fail
                      refine (rwithin_any _ _ _ _).mono ?_
                      rw [W3.out]
                      rintro e wx ⟨rfl, rfl⟩
                      go_wp2_with fail
                      refine (rwithin_any _ _ _ _).mono ?_
                      rw [W4.out]
                      rintro e wx ⟨rfl, rfl⟩
                      go_wp2_with fail
                      go_ret
                      exact ⟨ret_int (HB.out HVAL.out), hB.trans hB1⟩
          · go_wp2_with (fail)
            go_ret
            obtain rfl : k = bs.length := by omega
            exact ⟨ret_int (check_ok (by omega) (by omega) ha), hB⟩

def sameI (a b : List Int) : Bool := decide (a = b)
theorem sameI_no {a b : List Int} {k : Nat} (hk : k < a.length) (hl : a.length = b.length) (hne : a[k] ≠ b[k]'(by omega)) : false = sameI a b := by
  unfold sameI
  symm
  rw [decide_eq_false_iff_not]
  rintro rfl
  exact hne rfl
theorem sameI_len {a b : List Int} (h : a.length ≠ b.length) : false = sameI a b := by
  unfold sameI
  symm
  rw [decide_eq_false_iff_not]
  rintro rfl
  exact h rfl
theorem sameI_yes {a b : List Int} (hl : a.length = b.length) (ha : a.take a.length = b.take a.length) : true = sameI a b := by
  unfold sameI
  symm
  rw [decide_eq_true_iff]
  rw [List.take_length, hl, List.take_length] at ha
  exact ha

set_option maxRecDepth 100000 in
set_option maxHeartbeats 1000000 in
theorem sameInts_any (A1 : Option Addr) (c1 : Nat) (a : List Int) (A2 : Option Addr) (c2 : Nat) (b : List Int) (w : World) (hA : Rd w w.heap.size 1 A1 a.length (ints a)) (hB : Rd w w.heap.size 1 A2 b.length (ints b)) (hla : a.length ≤ 1000000) (hlb : b.length ≤ 1000000) :
    Calls Try.prog 14 #[.slice A1 a.length c1, .slice A2 b.length c2] w fun e w' => e = .returned (.bool (sameI a b)) ∧ Below w.heap.size w w' := by
  by_cases hl : a.length = b.length
  · have hne : ((a.length : Int) != (b.length : Int)) = false := by simp; omega
    have HL := Lib.hid hl
    clear hl
    go_enter Try.func14, Try.ntmps14
    go_wp2_with fail
    go_loopw [5] (fun i wr => ∃ k : Nat, k ≤ a.length ∧ i = .int .i64 k ∧ a.take k = b.take k ∧ Below w.heap.size w wr)
      (fun i _ => a.length - (intOf i).toNat)
    case atStart => exact ⟨0, Nat.zero_le _, rfl, rfl, Below.refl _ _⟩
    case round =>
      obtain ⟨k, hk, rfl, ha, hBw⟩ := hrel
      have hkb := HL.out
      by_cases hkl : k < a.length
      · have hkl2 : k < b.length := by omega
        obtain ⟨ba, oa, rfl, _, ea⟩ := (hA.below hBw (Nat.le_refl _)).one hkl
        obtain ⟨bb, ob, rfl, _, eb⟩ := (hB.below hBw (Nat.le_refl _)).one hkl2
        have hno := sameI_no hkl hkb
        have htk : a[k] = b[k] → a.take (k + 1) = b.take (k + 1) := fun e => by rw [List.take_succ_eq_append_getElem hkl, List.take_succ_eq_append_getElem hkl2, ha, e]
        obtain ⟨x, hx⟩ : ∃ x, a[k] = x := ⟨_, rfl⟩
        obtain ⟨y, hy⟩ : ∃ y, b[k] = y := ⟨_, rfl⟩
        rw [hx] at ea hno htk
        rw [hy] at eb hno htk
        have HN := Lib.hid hno
        have HT := Lib.hid htk
        clear hno htk hx hy ha hkb
        rcases hxy : (x != y) with _ | _
        · go_wp2_with fail
          go_quiet (fail)
          go_wp2_with fail
          go_roundw
          case rel => exact ⟨k + 1, by omega, by go_num, HT.out (by simpa using hxy), below_drewN hBw _⟩
          case measure => simp [intOf]; omega
        · go_wp2_with fail
          go_quiet (fail)
          go_wp2_with fail
          go_ret
          exact ⟨ret_bool (HN.out (by simpa using hxy)), below_drewN hBw _⟩
      · go_wp2_with fail
        go_ret
        obtain rfl : k = a.length := by omega
        exact ⟨ret_bool (sameI_yes HL.out ha), hBw⟩
  · have hne : ((a.length : Int) != (b.length : Int)) = true := by simp; omega
    have HL := Lib.hid hl
    clear hl
    go_enter Try.func14, Try.ntmps14
    go_wp2_with fail
    go_ret
    exact ⟨ret_bool (sameI_len HL.out), Below.refl _ _⟩

end Go.Proofs.Yteiaofgkmgllcaa
