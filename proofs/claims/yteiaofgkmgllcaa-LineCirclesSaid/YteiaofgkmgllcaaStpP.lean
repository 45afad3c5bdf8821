/-
  The reference's path and CheckPath.
-/
import Derived.Test.YteiaofgkmgllcaaChk
import Derived.Test.YteiaofgkmgllcaaRefA
import Derived.Deep.QuietTactic
import Derived.BigQuiet
set_option linter.unusedVariables false
set_option linter.unusedSimpArgs false
namespace Go.Proofs.Yteiaofgkmgllcaa
open Go.RowKit Go.Shelf

set_option maxRecDepth 100000 in
set_option maxHeartbeats 40000000 in
theorem rpath_any {M : Nat} (N : Int) (A : Option Addr) (c : Nat) (bs : List Ln.Bd) (A2 : Option Addr) (c2 : Nat) (l : List Int) (a b : Int) (w : World) (hok : Ln.Ok M bs) (hR : Rd w w.heap.size 4 A bs.length (bcells bs)) (hL : Rd w w.heap.size 1 A2 l.length (ints l)) (hll : l.length ≤ 1000000) :
    Calls Try.prog 43 #[.agg #[.int .i64 N, .slice A bs.length c], .slice A2 l.length c2, .int .i64 a, .int .i64 b] w fun e w' => e = .returned (.tuple #[.int .i64 (Ln.flF bs l a).2.1, .bool ((Ln.flF bs l a).2.2 && decide ((Ln.flF bs l a).1 = b))]) ∧ Below w.heap.size w w' := by
  have hB0 : Below w.heap.size w (w.alloc (.cells #[.int .i64 N, .slice A bs.length c] 24)) := (Below.refl _ _).alloc (Nat.le_refl _) _
  have kS := Bk.new w 24 #[.int .i64 N, .slice A bs.length c]
  obtain ⟨r, hr⟩ : ∃ r, Ln.flF bs l a = r := ⟨_, rfl⟩
  have hst := Ln.FlK.start bs l a M
  have hlen := hok.len
  rw [hr]
  have HR := Lib.hid hr
  have HST := Lib.hid hst
  clear hr hst
  go_enter Try.func43, Try.ntmps43
  go_wp2_with fail
  go_loopw [10, 11, 12] (fun t s i wr => ∃ (k : Nat) (tt sum : Int), k ≤ l.length ∧ i = .int .i64 k ∧ t = .int .i64 tt ∧ s = .int .i64 sum ∧ Ln.FlK bs l a M k tt sum ∧
        Bk wr w.heap.size 24 #[.int .i64 N, .slice A bs.length c] ∧ Below w.heap.size w wr)
      (fun _ _ i _ => l.length - (intOf i).toNat)
  case atStart => exact ⟨0, a, 0, Nat.zero_le _, rfl, rfl, rfl, HST.out, kS, hB0⟩
  case round =>
    obtain ⟨k, tt, sum, hk, rfl, rfl, rfl, hF, kS1, hB⟩ := hrel
    have c1 := kS1.cell 1
    have hS1 := kS1.lt
    simp only [List.getElem?_toArray, List.getElem?_cons_zero, List.getElem?_cons_succ] at c1
    have hs1 := hF.2.1
    have hs2 := hF.2.2
    by_cases hlt : k < l.length
    · obtain ⟨bl, ol, rfl, hbl, el⟩ := Rd.one (hL.below hB (Nat.le_refl _)) hlt
      have hgo := hF.go hok hlt
      have hno := hF.stop hlt
      obtain ⟨x, hx⟩ : ∃ x, l[k] = x := ⟨_, rfl⟩
      rw [hx] at el hgo hno
      have HG := Lib.hid hgo
      have HN := Lib.hid hno
      clear hx hgo hno hF
      rcases Int.lt_or_le x 0 with hx0 | hx0
      · have hd1 : decide (x < 0) = true := decide_eq_true hx0
        go_wp2_with fail
        go_quiet (fail)
        go_wp2_with fail
        go_ret2
        have hr := HR.out
        rw [HN.out (by omega)] at hr
        subst hr
        exact ⟨rfl, below_drewN hB _⟩
      · have hd1 : decide (x < 0) = false := decide_eq_false (by omega)
        rcases Int.lt_or_le x bs.length with hx1 | hx1
        · have hd2 : decide ((bs.length : Int) ≤ x) = false := decide_eq_false (by omega)
          obtain ⟨xn, rfl⟩ : ∃ xn : Nat, x = xn := ⟨x.toNat, by omega⟩
          have hxl : xn < bs.length := by omega
          obtain ⟨b', off, rfl, hb, e0, e1, e2, e3⟩ := (hR.below hB (Nat.le_refl _)).bound hxl
          rw [← Ln.bd_eq hxl] at e0 e1 e2 e3
          have hbd := Ln.flG_bound hok hxl
          rw [Int.toNat_natCast] at HG HN
          obtain ⟨B, hBd⟩ : ∃ B, Ln.bd bs xn = B := ⟨_, rfl⟩
          rw [hBd] at e0 e1 e2 e3 HG HN hbd
          clear hBd
          by_cases hf : B.f = tt
          · subst hf
            have hne : (B.f != B.f) = false := by simp
            go_wp2_with fail
            go_quiet (fail)
            go_wp2_with fail
            go_quiet (fail)
            go_wp2_with fail
            go_quiet (fail)
            go_wp2_with fail
            go_roundw
            case rel => exact ⟨k + 1, _, _, by omega, by go_num, rfl, rfl, HG.out (by omega) (by omega) (by simp), kS1.below (below_drewN (Below.refl _ _) _) hS1, below_drewN hB _⟩
            case measure => simp [intOf]; omega
          · have hne : (B.f != tt) = true := by simp [hf]
            have HF := Lib.hid hf
            clear hf
            go_wp2_with fail
            go_quiet (fail)
            go_wp2_with fail
            go_ret2
            have hr := HR.out
            rw [HN.out (fun h => HF.out h.2.2)] at hr
            subst hr
            exact ⟨rfl, below_drewN hB _⟩
        · have hd2 : decide ((bs.length : Int) ≤ x) = true := decide_eq_true hx1
          go_wp2_with fail
          go_quiet (fail)
          go_wp2_with fail
          go_ret2
          have hr := HR.out
          rw [HN.out (by omega)] at hr
          subst hr
          exact ⟨rfl, below_drewN hB _⟩
    · obtain rfl : k = l.length := by omega
      have hd := hF.done
      have HD := Lib.hid hd
      clear hd hF
      go_wp2_with fail
      go_ret2
      have hr := HR.out
      rw [HD.out] at hr
      subst hr
      refine ⟨?_, hB⟩
      by_cases e : tt = b
      · subst e; simp
      · simp [e]

end Go.Proofs.Yteiaofgkmgllcaa
