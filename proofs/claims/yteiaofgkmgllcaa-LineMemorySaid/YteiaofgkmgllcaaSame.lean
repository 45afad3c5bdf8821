/-
  The reference's Same, at two systems that read alike.
-/
import Derived.Test.YteiaofgkmgllcaaCheck
import Derived.Test.YteiaofgkmgllcaaRefA
import Derived.Deep.QuietTactic
import Derived.BigQuiet
set_option linter.unusedVariables false
set_option linter.unusedSimpArgs false
namespace Go.Proofs.Yteiaofgkmgllcaa
open Go.RowKit

set_option maxRecDepth 100000 in
set_option maxHeartbeats 2000000 in
theorem same_any (N : Int) (A : Option Addr) (c : Nat) (A2 : Option Addr) (c2 : Nat) (bs : List Ln.Bd) (w : World)
    (hR : Rd w w.heap.size 4 A bs.length (bcells bs)) (hR2 : Rd w w.heap.size 4 A2 bs.length (bcells bs)) (hc : bs.length ≤ 1000000) :
    Calls Try.prog 24 #[.agg #[.int .i64 N, .slice A bs.length c], .agg #[.int .i64 N, .slice A2 bs.length c2]] w fun e w' => e = .returned (.bool true) ∧ Below w.heap.size w w' := by
  have hB0 : Below w.heap.size w ((w.alloc (.cells #[.int .i64 N, .slice A bs.length c] 24)).alloc (.cells #[.int .i64 N, .slice A2 bs.length c2] 24)) := ((Below.refl _ _).alloc (Nat.le_refl _) _).alloc (by simp) _
  have k1 := (Bk.new w 24 #[.int .i64 N, .slice A bs.length c]).alloc (.cells #[.int .i64 N, .slice A2 bs.length c2] 24)
  have k2 := Bk.new (w.alloc (.cells #[.int .i64 N, .slice A bs.length c] 24)) 24 #[.int .i64 N, .slice A2 bs.length c2]
  simp only [World.size_alloc] at k2
  go_enter Try.func24, Try.ntmps24
  go_wp2_with fail
  go_loopw [5] (fun i wr => ∃ k : Nat, k ≤ bs.length ∧ i = .int .i64 k ∧ Below w.heap.size w wr ∧ Bk wr w.heap.size 24 #[.int .i64 N, .slice A bs.length c] ∧ Bk wr (w.heap.size + 1) 24 #[.int .i64 N, .slice A2 bs.length c2])
    (fun i _ => bs.length - (intOf i).toNat)
  case atStart => exact ⟨0, Nat.zero_le _, rfl, hB0, k1, k2⟩
  case round =>
    obtain ⟨k, hk, rfl, hB, q1, q2⟩ := hrel
    clear k1 k2 hB0
    have c0 := q1.cell 0
    have c1 := q1.cell 1
    have d0 := q2.cell 0
    have d1 := q2.cell 1
    simp only [List.getElem?_toArray, List.getElem?_cons_zero, List.getElem?_cons_succ] at c0 c1 d0 d1
    by_cases hkl : k < bs.length
    · obtain ⟨b, off, rfl, hb, e0, e1, e2, e3⟩ := (hR.below hB (Nat.le_refl _)).bound hkl
      obtain ⟨b', off', rfl, hb', g0, g1, g2, g3⟩ := (hR2.below hB (Nat.le_refl _)).bound hkl
      obtain ⟨bd, hbd⟩ : ∃ bd, bs[k] = bd := ⟨_, rfl⟩
      rw [hbd] at e0 e1 e2 e3 g0 g1 g2 g3
      obtain ⟨f, t, m, r, gx⟩ := bd
      clear hbd
      go_wp2_with fail
      go_quiet (fail)
      go_wp2_with fail
      case roundEnd => exact ⟨⟨k + 1, by omega, by go_num, below_drewN hB _, q1.below (below_drewN (Below.refl _ _) _) q1.lt, q2.below (below_drewN (Below.refl _ _) _) q2.lt⟩, by simp [intOf]; omega⟩
    · have hke : k = bs.length := by omega
      go_wp2_with fail
      go_ret
      exact ⟨rfl, hB⟩

end Go.Proofs.Yteiaofgkmgllcaa
