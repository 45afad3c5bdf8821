/-
  The reference's pointed.
-/
import Derived.Test.YtdndhfggdjphjaaConR
set_option linter.unusedVariables false
set_option linter.unusedSimpArgs false
namespace Go.Proofs.Ytdndhfggdjphjaa
open Go.RowKit

set_option maxRecDepth 100000 in
set_option maxHeartbeats 2000000 in
theorem rpointed_any (N : Int) (A : Option Addr) (c : Nat) (bs : List Ln.Bd) (A2 : Option Addr) (c2 : Nat) (ps : List Int) (w : World) (hR : Rd w w.heap.size 4 A bs.length (bcells bs)) (hc : Ln.Lv bs)
    (hP : Rd w w.heap.size 1 A2 ps.length (ints ps)) (hps : ps.length ≤ 1000000) :
    Calls Try.prog 51 #[.agg #[.int .i64 N, .slice A bs.length c], .slice A2 ps.length c2] w fun e w' => e = .returned (.int .i64 (Ln.soundF N bs ps)) ∧ Below w.heap.size w w' := by
  have k0 := Bk.new w 24 #[.int .i64 N, .slice A bs.length c]
  have hB0 : Below w.heap.size w (w.alloc (.cells #[.int .i64 N, .slice A bs.length c] 24)) := (Below.refl _ _).alloc (Nat.le_refl _) _
  have hR1 := (hR.below hB0 (Nat.le_refl _)).more hB0.size
  by_cases hch : Ln.check N bs = 0
  · obtain ⟨hok, hN⟩ := Ln.ok_of_check hch
    have HC := Lib.hid hch
    clear hch
    go_enter Try.func51, Try.ntmps51
    go_wp2_with fail
    refine (rcheck_any N A c bs _ hR1 hc.len).mono ?_
    rw [HC.out]
    rintro e w1 ⟨rfl, hb1⟩
    have k1 := k0.below hb1 (by simp)
    have hB1 := hB0.trans (hb1.mono (by simp))
    have hw1 := hB1.size
    go_wp2_with fail
    go_loopw [6] (fun i wr => ∃ k : Nat, k ≤ ps.length ∧ i = .int .i64 k ∧ (ps.take k).all (Ln.isPoint N) = true ∧ Below w.heap.size w wr ∧ Bk wr w.heap.size 24 #[.int .i64 N, .slice A bs.length c])
      (fun i _ => ps.length - (intOf i).toNat)
    case atStart => exact ⟨0, Nat.zero_le _, rfl, rfl, hB1, k1⟩
    case round =>
      clear k1 hB1
      obtain ⟨k, hk, rfl, ha, hB, hK⟩ := hrel
      have hlt := hK.lt
      have c0 := hK.cell 0
      have c1 := hK.cell 1
      simp only [List.getElem?_toArray, List.getElem?_cons_zero, List.getElem?_cons_succ] at c0 c1
      by_cases hkl : k < ps.length
      · obtain ⟨b, off, rfl, hb, e0⟩ := (hP.below hB (Nat.le_refl _)).one hkl
        have hat := pts_take hkl ha
        have hbad := Ln.cpF_no (ps := ps) HC.out hkl
        obtain ⟨p, hp⟩ : ∃ p, ps[k] = p := ⟨_, rfl⟩
        rw [hp] at e0 hat hbad
        have HA := Lib.hid hat
        have HB := Lib.hid hbad
        have hbW : b < wr.heap.size := by have := hB.size; omega
        clear hat hbad hp ha
        rcases h0 : decide (p < 0) with _ | _
        · rcases h1 : decide (N ≤ p) with _ | _
          · have hv : Ln.isPoint N p = true := by simp at h0 h1; simp [Ln.isPoint]; omega
            have HV := Lib.hid hv
            clear hv
            go_wp2_with fail
            go_quiet (fail)
            go_wp2_with fail
            go_roundw
            case rel => exact ⟨k + 1, by omega, by go_num, HA.out HV.out, below_drewN hB _, hK⟩
            case measure => simp [intOf]; omega
          · have hv : Ln.isPoint N p = false := by simp at h1; simp [Ln.isPoint]; omega
            have HV := Lib.hid hv
            clear hv
            go_wp2_with fail
            go_quiet (fail)
            go_wp2_with fail
            go_ret
            rw [Ln.soundF, HB.out HV.out, if_neg (by decide)]
            exact ⟨rfl, below_drewN hB _⟩
        · have hv : Ln.isPoint N p = false := by simp at h0; simp [Ln.isPoint]; omega
          have HV := Lib.hid hv
          clear hv
          go_wp2_with fail
          go_quiet (fail)
          go_wp2_with fail
          go_ret
          rw [Ln.soundF, HB.out HV.out, if_neg (by decide)]
          exact ⟨rfl, below_drewN hB _⟩
      · obtain rfl : k = ps.length := by omega
        have hcp := Ln.cpF_ok HC.out ha
        obtain ⟨M, hM⟩ : ∃ M, N.toNat = M := ⟨_, rfl⟩
        have hcr := Ln.consR_eq hok hc.live
        have hs : Ln.soundF N bs ps = if Ln.consF bs N.toNat then 0 else 10 := by rw [Ln.soundF, if_pos hcp]
        rw [← hcr] at hs
        rw [hM] at hok hN hs
        have hR2 := (hR.below hB (Nat.le_refl _)).more hB.size
        have HS := Lib.hid hs
        clear hcr hs hM
        subst hN
        rcases hco : Ln.consR bs M with _ | _
        all_goals
          have HCO := Lib.hid hco
          clear hco
          go_wp2_with fail
          refine (rconsistent_any hok hc.live A c _ hR2).mono ?_
          rw [HCO.out]
          rintro e w2 ⟨rfl, hb2⟩
          go_wp2_with fail
          go_ret
          rw [HS.out, HCO.out]
          exact ⟨rfl, hB.trans (hb2.mono hB.size)⟩
  · have hne : (Ln.check N bs != 0) = true := by simp [hch]
    have hs : Ln.soundF N bs ps = Ln.check N bs := by rw [Ln.soundF, Ln.cpF_bad hch, if_neg hch]
    rw [hs]
    clear hch hs
    go_enter Try.func51, Try.ntmps51
    go_wp2_with fail
    refine (rcheck_any N A c bs _ hR1 hc.len).mono ?_
    rintro e w1 ⟨rfl, hb1⟩
    go_wp2_with fail
    go_ret
    exact ⟨rfl, hB0.trans (hb1.mono (by simp))⟩

end Go.Proofs.Ytdndhfggdjphjaa
