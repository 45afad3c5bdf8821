/-
  The reference's broken; the loop of Kept.
-/
import Derived.Test.YtnmiecnpiadcnaaRefA
set_option linter.unusedVariables false
set_option linter.unusedSimpArgs false
namespace Go.Proofs.Ytnmiecnpiadcnaa
open Go.RowKit

theorem Rd.gt {w : World} {B : Nat} {A : Option Addr} {l : List Int} (h : Rd w B 1 A l.length (ints l)) {k : Nat} (hk : k < l.length) :
    ∃ b off, A = some ⟨b, off, none⟩ ∧ b < B ∧ w.cell? ⟨b, off + k, none⟩ = some (.int .i64 (Ln.gt l k)) := by
  rw [Ln.gt_eq hk]
  exact h.one hk

def brkV : Option Nat → Int | some i => i | none => -1

set_option maxRecDepth 100000 in
set_option maxHeartbeats 2000000 in
theorem rbroken_any {N : Nat} {bs : List Ln.Bd} (hok : Ln.Ok N bs) (A : Option Addr) (c : Nat) (A2 : Option Addr) (c2 : Nat) (y : List Int) (w : World) (hR : Rd w w.heap.size 4 A bs.length (bcells bs)) (hY : Rd w w.heap.size 1 A2 y.length (ints y)) (hv : Ln.areV N y = true) :
    Calls Try.prog 70 #[.agg #[.int .i64 N, .slice A bs.length c], .slice A2 y.length c2] w fun e w' => e = .returned (.int .i64 (brkV (Ln.brk bs y))) ∧ Below w.heap.size w w' := by
  obtain ⟨hyl, hyb⟩ := Ln.areV_spec hv
  have hlen := hok.len
  have htop := hok.top
  clear hv
  have HYB := Lib.hid hyb
  clear hyb
  have HYL := Lib.hid hyl
  go_enter Try.func70, Try.ntmps70
  go_wp2_with fail
  have hB0 : Below w.heap.size w (w.alloc (.cells #[.int .i64 N, .slice A bs.length c] 24)) := (Below.refl _ _).alloc (Nat.le_refl _) _
  go_loopw [5] (fun i wr => ∃ k : Nat, k ≤ bs.length ∧ i = .int .i64 k ∧ (∀ j, j < k → Ln.brkP bs y j = false) ∧ Below w.heap.size w wr ∧ Bk wr w.heap.size 24 #[.int .i64 N, .slice A bs.length c])
    (fun i _ => bs.length - (intOf i).toNat)
  case atStart => exact ⟨0, Nat.zero_le _, rfl, (fun j hj => absurd hj (by omega)), hB0, Bk.new _ _ _⟩
  case round =>
    obtain ⟨k, hk, rfl, ha, hB, hK⟩ := hrel
    have hlt := hK.lt
    have c1 := hK.cell 1
    simp only [List.getElem?_toArray, List.getElem?_cons_zero, List.getElem?_cons_succ] at c1
    have HA := Lib.hid ha
    clear ha
    by_cases hkl : k < bs.length
    · obtain ⟨b, off, rfl, hb, e0, e1, e2, e3⟩ := (hR.below hB (Nat.le_refl _)).bound hkl
      rw [← Ln.bd_eq hkl] at e0 e1 e2 e3
      have hof := hok.each _ (Ln.bd_mem hkl)
      obtain ⟨p, hp⟩ : ∃ p : Nat, (Ln.bd bs k).f = p := ⟨(Ln.bd bs k).f.toNat, by omega⟩
      obtain ⟨q, hq⟩ : ∃ q : Nat, (Ln.bd bs k).t = q := ⟨(Ln.bd bs k).t.toNat, by omega⟩
      have hbk : Ln.brkP bs y k = decide ((Ln.bd bs k).m < Ln.gt y q - Ln.gt y p) := by rw [Ln.brkP, hp, hq]; simp
      rw [hp] at e0 hof
      rw [hq] at e1 hof
      have hpy : p < y.length := by omega
      have hqy : q < y.length := by omega
      obtain ⟨b2, off2, hA2, hb2, yp⟩ := (hY.below hB (Nat.le_refl _)).gt hpy
      obtain ⟨b3, off3, hA3, hb3, yq⟩ := (hY.below hB (Nat.le_refl _)).gt hqy
      subst hA2
      obtain ⟨rfl, rfl⟩ : b2 = b3 ∧ off2 = off3 := by simpa using hA3
      have bp := HYB.out p hpy
      have bq := HYB.out q hqy
      obtain ⟨vp, hvp⟩ : ∃ v, Ln.gt y p = v := ⟨_, rfl⟩
      obtain ⟨vq, hvq⟩ : ∃ v, Ln.gt y q = v := ⟨_, rfl⟩
      obtain ⟨m, hm⟩ : ∃ m, (Ln.bd bs k).m = m := ⟨_, rfl⟩
      rw [hvp] at yp bp hbk
      rw [hvq] at yq bq hbk
      rw [hm] at e2 hbk
      have bp1 := bp.1
      have bp2 := bp.2
      have bq1 := bq.1
      have bq2 := bq.2
      have HBK := Lib.hid hbk
      have hpi : (p : Int) < (y.length : Int) := by omega
      have hqi : (q : Int) < (y.length : Int) := by omega
      clear hvp hvq hm hp hq hbk hof bp bq hA3 hyl
      have hbW : b2 < wr.heap.size := by have := hB.size; omega
      have hwr : IntKind.i64.wrap (vq - vp) = vq - vp := IntWalk.i64_in _ (by omega)
      rcases hdec : decide (m < vq - vp) with _ | _
      · go_wp2_with fail
        go_quiet (fail)
        go_wp2_with fail
        go_roundw
        case rel => 
          refine ⟨k + 1, by omega, by go_num, fun j hj => ?_, below_drewN (hB.alloc hB.size _) _, (hK.alloc _)⟩
          rcases Nat.lt_or_ge j k with h | h
          · exact HA.out j h
          · obtain rfl : j = k := by omega
            rw [HBK.out]
            exact hdec
        case measure => simp [intOf]; omega
      · go_wp2_with fail
        go_quiet (fail)
        go_wp2_with fail
        go_ret
        rw [Ln.brk_some hkl HA.out (by rw [HBK.out]; exact hdec)]
        exact ⟨rfl, below_drewN (hB.alloc hB.size _) _⟩
    · go_wp2_with fail
      go_ret
      obtain rfl : k = bs.length := by omega
      rw [Ln.brk_none HA.out]
      exact ⟨rfl, hB⟩

end Go.Proofs.Ytnmiecnpiadcnaa
