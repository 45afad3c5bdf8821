/-
  Fractions in lowest terms: lowest of course, fraction of the reference.
-/
import Derived.Test.YtncdeogpmodoaaaGreatDoorNum
set_option linter.unusedVariables false
set_option linter.unusedSimpArgs false
namespace Go.Proofs.YtncdeogpmodoaaaGreatDoor
open Go.RowKit
set_option maxRecDepth 100000

namespace Cs
theorem gcd_step (a b : Nat) : Nat.gcd b (a % b) = Nat.gcd a b := by
  rw [Nat.gcd_comm b, Nat.gcd_comm a, ← Nat.gcd_rec]
theorem gcd_pos {a b : Nat} (h : 0 < a) : 0 < Nat.gcd a b := Nat.gcd_pos_of_pos_left _ h
end Cs

/-- A fraction as a value. -/
def fval (n d : Nat) : Value := .agg #[.int .i64 ((n / Nat.gcd n d : Nat) : Int), .int .i64 ((d / Nat.gcd n d : Nat) : Int)]

set_option maxHeartbeats 2000000 in
theorem lowest_any (n d : Nat) (hn : 0 < n) (hd : 0 < d) (hn1 : n ≤ 9000000000000000000) (hd1 : d ≤ 9000000000000000000) (w : World) :
    Calls Tryz.prog 63 #[.int .i64 (n : Int), .int .i64 (d : Int)] w fun e w' => e = .returned (fval n d) ∧ Below w.heap.size w w' := by
  have hB0 := (Below.refl w.heap.size w).alloc (Nat.le_refl _) (.cells #[.int .i64 0, .int .i64 0] 32)
  have kZ := Bk.new w 32 #[.int .i64 0, .int .i64 0]
  have hfin : ∀ W, Bk W w.heap.size 32 #[.int .i64 0, .int .i64 0] → Below w.heap.size w W → ∀ x y : Int,
      Bk ((W.setCell ⟨w.heap.size, 0, none⟩ (.int .i64 x)).setCell ⟨w.heap.size, 1, none⟩ (.int .i64 y)) w.heap.size 32 #[.int .i64 x, .int .i64 y] ∧ Below w.heap.size w ((W.setCell ⟨w.heap.size, 0, none⟩ (.int .i64 x)).setCell ⟨w.heap.size, 1, none⟩ (.int .i64 y)) := fun W h hB x y =>
    ⟨(h.set 0 _).set 1 _, (hB.setCell (p := ⟨w.heap.size, 0, none⟩) (by simp) _).setCell (p := ⟨w.heap.size, 1, none⟩) (by simp) _⟩
  have HFIN := Lib.hid hfin
  have HB0 := Lib.hid hB0
  have KZ := Lib.hid kZ
  have hgp := Cs.gcd_pos (b := d) hn
  have r1 : n / Nat.gcd n d ≤ n := Nat.div_le_self _ _
  have r2 : d / Nat.gcd n d ≤ d := Nat.div_le_self _ _
  have hv : fval n d = .agg #[.int .i64 ((n / Nat.gcd n d : Nat) : Int), .int .i64 ((d / Nat.gcd n d : Nat) : Int)] := rfl
  rw [hv]
  obtain ⟨x, hx⟩ : ∃ x, n / Nat.gcd n d = x := ⟨_, rfl⟩
  obtain ⟨y, hy⟩ : ∃ y, d / Nat.gcd n d = y := ⟨_, rfl⟩
  rw [hx] at r1 ⊢
  rw [hy] at r2 ⊢
  have hr1 : (x : Int) ≤ 9000000000000000000 := by omega
  have hr2 : (y : Int) ≤ 9000000000000000000 := by omega
  have HX := Lib.hid hx
  have HY := Lib.hid hy
  clear hfin hB0 kZ hx hy hv r1 r2
  go_enter Tryz.func63, Tryz.ntmps63
  go_wp2_with fail
  go_loopw [5, 6] (fun X Y wr => ∃ a b : Nat, X = .int .i64 (a : Int) ∧ Y = .int .i64 (b : Int) ∧ 0 < a ∧ a ≤ 9000000000000000000 ∧ b ≤ 9000000000000000000 ∧ Nat.gcd a b = Nat.gcd n d ∧ Bk wr w.heap.size 32 #[.int .i64 0, .int .i64 0] ∧ Below w.heap.size w wr) (fun _ Y _ => (intOf Y).toNat)
  case atStart => exact ⟨n, d, rfl, rfl, hn, hn1, hd1, rfl, KZ.out, HB0.out⟩
  case round =>
    obtain ⟨a, b, rfl, rfl, ha, ha1, hb1, hg, hK, hB⟩ := hrel
    by_cases hb : 0 < b
    · have hb0 : ¬ (b : Int) = 0 := by omega
      have hbp : (0 : Int) < (b : Int) := by omega
      have hm : ((a : Int)).tmod (b : Int) = ((a % b : Nat) : Int) := by rw [Int.tmod_eq_emod_of_nonneg (by omega)]; rfl
      have hlt := Nat.mod_lt a hb
      have HS := Lib.hid ((Cs.gcd_step a b).trans hg)
      have HK := Lib.hid hK
      have HB := Lib.hid hB
      clear hg hK hB
      have hmb : 0 ≤ ((a % b : Nat) : Int) ∧ ((a % b : Nat) : Int) ≤ 9000000000000000000 := by omega
      obtain ⟨m, hmm⟩ : ∃ m, a % b = m := ⟨_, rfl⟩
      rw [hmm] at hm HS hlt hmb
      clear hmm
      go_wp2_with fail
      go_quiet (fail)
      go_wp2_with fail
      go_roundw
      case rel => exact ⟨b, m, rfl, by first | rfl | (rw [hm]), hb, hb1, by omega, HS.out, (HK.out.below (below_drewN (Below.refl _ _) _) HK.out.lt), below_drewN HB.out _⟩
      case measure => simp [intOf]; omega
    · obtain rfl : b = 0 := by omega
      have hag : a = Nat.gcd n d := by rw [← hg]; simp
      have h1 : (n : Int).tdiv (a : Int) = (x : Int) := by rw [Int.tdiv_eq_ediv_of_nonneg (by omega), hag, ← HX.out]; rfl
      have h2 : (d : Int).tdiv (a : Int) = (y : Int) := by rw [Int.tdiv_eq_ediv_of_nonneg (by omega), hag, ← HY.out]; rfl
      have ha0 : ¬ (a : Int) = 0 := by omega
      have z0 := (hK.cell 0).trans rfl
      have z1 := (hK.cell 1).trans rfl
      have f0 := hK.frozen 0
      have f1 := hK.frozen 1
      have lk := hK.lt
      have HR := Lib.hid (fun q => HFIN.out _ (hK.below (below_drewN (Below.refl wr.heap.size wr) q) hK.lt) (below_drewN hB q) (x : Int) (y : Int))
      clear hg hag hK hB HFIN HB0 KZ HX HY
      go_wp2_with fail
      go_region
      all_goals
        go_wp2_with fail
        exact bodyPost_ret (v := .agg #[.int .i64 (x : Int), .int .i64 (y : Int)]) (results_cell_row rfl _ _ w.heap.size 32 _ (0, 0) _ rfl (HR.out 1).1 Tryz.underlying32 rfl (by kernel_rfl)) rfl ⟨rfl, (HR.out 1).2⟩

set_option maxHeartbeats 2000000 in
theorem rfraction_any (n d : Nat) (hn : 0 < n) (hd : 0 < d) (hn1 : n ≤ 9000000000000000000) (hd1 : d ≤ 9000000000000000000) (w : World) :
    Calls Tryz.prog 64 #[.int .i64 (n : Int), .int .i64 (d : Int)] w fun e w' => e = .returned (fval n d) ∧ Below w.heap.size w w' := by
  have hB0 := (Below.refl w.heap.size w).alloc (Nat.le_refl _) (.cells #[.int .i64 0, .int .i64 0] 32)
  have kZ := Bk.new w 32 #[.int .i64 0, .int .i64 0]
  have hfin : ∀ W, Bk W w.heap.size 32 #[.int .i64 0, .int .i64 0] → Below w.heap.size w W → ∀ x y : Int,
      Bk ((W.setCell ⟨w.heap.size, 0, none⟩ (.int .i64 x)).setCell ⟨w.heap.size, 1, none⟩ (.int .i64 y)) w.heap.size 32 #[.int .i64 x, .int .i64 y] ∧ Below w.heap.size w ((W.setCell ⟨w.heap.size, 0, none⟩ (.int .i64 x)).setCell ⟨w.heap.size, 1, none⟩ (.int .i64 y)) := fun W h hB x y =>
    ⟨(h.set 0 _).set 1 _, (hB.setCell (p := ⟨w.heap.size, 0, none⟩) (by simp) _).setCell (p := ⟨w.heap.size, 1, none⟩) (by simp) _⟩
  have HFIN := Lib.hid hfin
  have HB0 := Lib.hid hB0
  have KZ := Lib.hid kZ
  have hgp := Cs.gcd_pos (b := d) hn
  have r1 : n / Nat.gcd n d ≤ n := Nat.div_le_self _ _
  have r2 : d / Nat.gcd n d ≤ d := Nat.div_le_self _ _
  have hv : fval n d = .agg #[.int .i64 ((n / Nat.gcd n d : Nat) : Int), .int .i64 ((d / Nat.gcd n d : Nat) : Int)] := rfl
  rw [hv]
  obtain ⟨x, hx⟩ : ∃ x, n / Nat.gcd n d = x := ⟨_, rfl⟩
  obtain ⟨y, hy⟩ : ∃ y, d / Nat.gcd n d = y := ⟨_, rfl⟩
  rw [hx] at r1 ⊢
  rw [hy] at r2 ⊢
  have hr1 : (x : Int) ≤ 9000000000000000000 := by omega
  have hr2 : (y : Int) ≤ 9000000000000000000 := by omega
  have HX := Lib.hid hx
  have HY := Lib.hid hy
  clear hfin hB0 kZ hx hy hv r1 r2
  go_enter Tryz.func64, Tryz.ntmps64
  go_wp2_with fail
  go_loopw [5, 6, 7] (fun X Y _ wr => ∃ a b : Nat, X = .int .i64 (a : Int) ∧ Y = .int .i64 (b : Int) ∧ 0 < a ∧ a ≤ 9000000000000000000 ∧ b ≤ 9000000000000000000 ∧ Nat.gcd a b = Nat.gcd n d ∧ Bk wr w.heap.size 32 #[.int .i64 0, .int .i64 0] ∧ Below w.heap.size w wr) (fun _ Y _ _ => (intOf Y).toNat)
  case atStart => exact ⟨n, d, rfl, rfl, hn, hn1, hd1, rfl, KZ.out, HB0.out⟩
  case round =>
    obtain ⟨a, b, rfl, rfl, ha, ha1, hb1, hg, hK, hB⟩ := hrel
    by_cases hb : 0 < b
    · have hb0 : ¬ (b : Int) = 0 := by omega
      have hbp : (0 : Int) < (b : Int) := by omega
      have hm : ((a : Int)).tmod (b : Int) = ((a % b : Nat) : Int) := by rw [Int.tmod_eq_emod_of_nonneg (by omega)]; rfl
      have hlt := Nat.mod_lt a hb
      have HS := Lib.hid ((Cs.gcd_step a b).trans hg)
      have HK := Lib.hid hK
      have HB := Lib.hid hB
      clear hg hK hB
      have hmb : 0 ≤ ((a % b : Nat) : Int) ∧ ((a % b : Nat) : Int) ≤ 9000000000000000000 := by omega
      obtain ⟨m, hmm⟩ : ∃ m, a % b = m := ⟨_, rfl⟩
      rw [hmm] at hm HS hlt hmb
      clear hmm
      go_wp2_with fail
      go_roundw
      case rel => exact ⟨b, m, rfl, by first | rfl | (rw [hm]), hb, hb1, by omega, HS.out, HK.out, HB.out⟩
      case measure => simp [intOf]; omega
    · obtain rfl : b = 0 := by omega
      have hag : a = Nat.gcd n d := by rw [← hg]; simp
      have h1 : (n : Int).tdiv (a : Int) = (x : Int) := by rw [Int.tdiv_eq_ediv_of_nonneg (by omega), hag, ← HX.out]; rfl
      have h2 : (d : Int).tdiv (a : Int) = (y : Int) := by rw [Int.tdiv_eq_ediv_of_nonneg (by omega), hag, ← HY.out]; rfl
      have ha0 : ¬ (a : Int) = 0 := by omega
      have z0 := (hK.cell 0).trans rfl
      have z1 := (hK.cell 1).trans rfl
      have f0 := hK.frozen 0
      have f1 := hK.frozen 1
      have lk := hK.lt
      have HR := Lib.hid (fun q => HFIN.out _ (hK.below (below_drewN (Below.refl wr.heap.size wr) q) hK.lt) (below_drewN hB q) (x : Int) (y : Int))
      clear hg hag hK hB HFIN HB0 KZ HX HY
      go_wp2_with fail
      go_region
      all_goals
        go_wp2_with fail
        exact bodyPost_ret (v := .agg #[.int .i64 (x : Int), .int .i64 (y : Int)]) (results_cell_row rfl _ _ w.heap.size 32 _ (0, 0) _ rfl (HR.out 1).1 Tryz.underlying32 rfl (by kernel_rfl)) rfl ⟨rfl, (HR.out 1).2⟩

end Go.Proofs.YtncdeogpmodoaaaGreatDoor
