/-
  areValues, Kept.
-/
import Derived.Test.YteiaofgkmgllcaaIdxf
set_option linter.unusedVariables false
set_option linter.unusedSimpArgs false
namespace Go.Proofs.Yteiaofgkmgllcaa
open Go.RowKit

theorem areV_idx {N : Int} {y : List Int} (hN : (y.length : Int) = N) (h0 : 0 < y.length) (hy : Ln.gt y 0 = 0) : (!(idxF y).isSome) = Ln.areV N y := by
  have e : Ln.areV N y = y.all (fun v => Ln.within v 400000000) := by simp [Ln.areV, hN, h0, hy]
  rw [e]
  rcases hi : idxF y with _ | i
  · rw [idxF, List.find?_range_eq_none] at hi
    rw [all_of (fun j hj => by simpa using hi j hj)]
    rfl
  · rw [idxF, List.find?_range_eq_some] at hi
    rw [not_all_of (k := i) (by simpa using hi.2.1) (by simpa using hi.1)]
    rfl

set_option maxRecDepth 100000 in
set_option maxHeartbeats 1000000 in
theorem areValues_any (N : Int) (hN1 : 1 ≤ N) (A2 : Option Addr) (c2 : Nat) (y : List Int) (w : World) (hY : Rd w w.heap.size 1 A2 y.length (ints y)) (hyl : y.length ≤ 1000000) :
    Calls Try.prog 49 #[.int .i64 N, .slice A2 y.length c2] w fun e w' => e = .returned (.bool (Ln.areV N y)) ∧ w = w' := by
  rcases hN : ((y.length : Int) != N) with _ | _
  · have hN' : (y.length : Int) = N := by simpa using hN
    have h0 : 0 < y.length := by omega
    obtain ⟨b0, off0, hA0, hb0, y0⟩ := hY.at0 h0
    subst hA0
    rcases hy0 : (Ln.gt y 0 != 0) with _ | _
    · have hres := areV_idx hN' h0 (by simpa using hy0)
      have HR := Lib.hid hres
      obtain ⟨v0, hv0⟩ : ∃ v, Ln.gt y 0 = v := ⟨_, rfl⟩
      rw [hv0] at y0 hy0
      clear hres hN' hv0
      rcases hi : (idxF y).isSome with _ | _
      all_goals
        have HI := Lib.hid hi
        clear hi
        go_enter Try.func49, Try.ntmps49
        go_wp2_with fail
        refine (containsFunc_any _ _ _ _ hY hyl).mono ?_
        rw [HI.out]
        rintro e wx ⟨rfl, rfl⟩
        go_wp2_with fail
        go_ret
        exact ⟨ret_bool (by rw [← HR.out, HI.out]; rfl), rfl⟩
    · have hres : false = Ln.areV N y := by
        have : Ln.gt y 0 ≠ 0 := by simpa using hy0
        simp [Ln.areV, this]
      have HR := Lib.hid hres
      obtain ⟨v0, hv0⟩ : ∃ v, Ln.gt y 0 = v := ⟨_, rfl⟩
      rw [hv0] at y0 hy0
      clear hres hN' hv0
      go_enter Try.func49, Try.ntmps49
      go_wp2_with fail
      go_ret
      exact ⟨ret_bool HR.out, rfl⟩
  · have hres : false = Ln.areV N y := by
      have : (y.length : Int) ≠ N := by simpa using hN
      simp [Ln.areV, this]
    have HR := Lib.hid hres
    clear hres
    go_enter Try.func49, Try.ntmps49
    go_wp2_with fail
    go_ret
    exact ⟨ret_bool HR.out, rfl⟩

set_option maxRecDepth 100000 in
set_option maxHeartbeats 2000000 in
theorem kept_any (N : Int) (A : Option Addr) (c : Nat) (bs : List Ln.Bd) (A2 : Option Addr) (c2 : Nat) (y : List Int) (w : World) (hR : Rd w w.heap.size 4 A bs.length (bcells bs)) (hc : bs.length ≤ 1000000) (hY : Rd w w.heap.size 1 A2 y.length (ints y)) (hyl : y.length ≤ 1000000) :
    Calls Try.prog 17 #[.agg #[.int .i64 N, .slice A bs.length c], .slice A2 y.length c2] w fun e w' => e = .returned (.tuple #[.int .i64 (Ln.keptF N bs y).1, .bool (Ln.keptF N bs y).2.1, .int .i64 (Ln.keptF N bs y).2.2]) ∧ Below w.heap.size w w' := by
  have hB0 : Below w.heap.size w (w.alloc (.cells #[.int .i64 N, .slice A bs.length c] 24)) := (Below.refl _ _).alloc (Nat.le_refl _) _
  have k0 := Bk.new w 24 #[.int .i64 N, .slice A bs.length c]
  have hR1 := (hR.below hB0 (Nat.le_refl _)).more hB0.size
  by_cases hch : Ln.check N bs = 0
  · obtain ⟨hok, hN⟩ := Ln.ok_of_check hch
    obtain ⟨M, hM⟩ : ∃ M, N.toNat = M := ⟨_, rfl⟩
    rw [hM] at hok hN
    clear hM
    subst hN
    have hM1 : (1 : Int) ≤ M := by have := hok.pos; omega
    have hlen := hok.len
    have HC := Lib.hid hch
    clear hch
    rcases hv : Ln.areV M y with _ | _
    · have hres : Ln.keptF M bs y = (0, false, 1) := by rw [Ln.keptF, if_pos HC.out, if_neg (by rw [hv]; simp)]
      rw [hres]
      have HV := Lib.hid hv
      clear hv hres
      go_enter Try.func17, Try.ntmps17
      go_wp2_with fail
      refine (check_any M A c bs _ hR1 hc).mono ?_
      rw [HC.out]
      rintro e w1 ⟨rfl, hb1⟩
      have k1 := k0.below hb1 (by simp)
      have c0 := k1.cell 0
      have c1 := k1.cell 1
      simp only [List.getElem?_toArray, List.getElem?_cons_zero, List.getElem?_cons_succ] at c0 c1
      have hB1 := hB0.trans (hb1.mono (by simp))
      have hY1 := (hY.below hB1 (Nat.le_refl _)).more hB1.size
      go_wp2_with fail
      refine (areValues_any M hM1 A2 c2 y _ hY1 hyl).mono ?_
      rw [HV.out]
      rintro e w2 ⟨rfl, rfl⟩
      go_wp2_with fail
      go_ret3
      exact ⟨rfl, hB1⟩
    · have HV := Lib.hid hv
      obtain ⟨hyl2, hyb⟩ := Ln.areV_spec hv
      have HYB := Lib.hid hyb
      have hres1 : ∀ r, Ln.brk bs y = r → Ln.keptF M bs y = (match r with | some i => ((i : Int), false, 0) | none => (0, true, 0)) := fun r hr => by rw [Ln.keptF, if_pos HC.out, if_pos HV.out, hr]; cases r <;> rfl
      have HRES := Lib.hid hres1
      clear hv hyb hres1
      go_enter Try.func17, Try.ntmps17
      go_wp2_with fail
      refine (check_any M A c bs _ hR1 hc).mono ?_
      rw [HC.out]
      rintro e w1 ⟨rfl, hb1⟩
      have k1 := k0.below hb1 (by simp)
      have c0 := k1.cell 0
      have c1 := k1.cell 1
      simp only [List.getElem?_toArray, List.getElem?_cons_zero, List.getElem?_cons_succ] at c0 c1
      have hB1 := hB0.trans (hb1.mono (by simp))
      have hY1 := (hY.below hB1 (Nat.le_refl _)).more hB1.size
      go_wp2_with fail
      refine (areValues_any M hM1 A2 c2 y _ hY1 hyl).mono ?_
      rw [HV.out]
      rintro e w2 ⟨rfl, rfl⟩
      go_wp2_with fail
      go_loopw [23] (fun i wr => ∃ k : Nat, k ≤ bs.length ∧ i = .int .i64 k ∧ (∀ j, j < k → Ln.brkP bs y j = false) ∧ Below w.heap.size w wr)
        (fun i _ => bs.length - (intOf i).toNat)
      case atStart => exact ⟨0, Nat.zero_le _, rfl, (fun j hj => absurd hj (by omega)), hB1⟩
      case round =>
        obtain ⟨k, hk, rfl, ha, hB⟩ := hrel
        have HA := Lib.hid ha
        clear ha
        by_cases hkl : k < bs.length
        · obtain ⟨b, off, rfl, hb, e0, e1, e2, e3⟩ := (hR.below hB (Nat.le_refl _)).bound hkl
          rw [← Ln.bd_eq hkl] at e0 e1 e2 e3
          have hof := hok.each _ (Ln.bd_mem hkl)
          obtain ⟨p, hp⟩ : ∃ p : Nat, (Ln.bd bs k).f = p := ⟨(Ln.bd bs k).f.toNat, by omega⟩
          obtain ⟨q, hq⟩ : ∃ q : Nat, (Ln.bd bs k).t = q := ⟨(Ln.bd bs k).t.toNat, by omega⟩
          have hbk : Ln.brkP bs y k = decide ((Ln.bd bs k).m < Ln.gt y q - Ln.gt y p) := by rw [Ln.brkP, hp, hq]; simp
          rw [hp] at e0 hof
          rw [hq] at e1 hof
          have hpy : p < y.length := by omega
          have hqy : q < y.length := by omega
          obtain ⟨b2, off2, hA2, hb2, yp⟩ := (hY.below hB (Nat.le_refl _)).gt hpy
          obtain ⟨b3, off3, hA3, hb3, yq⟩ := (hY.below hB (Nat.le_refl _)).gt hqy
          subst hA2
          obtain ⟨rfl, rfl⟩ : b2 = b3 ∧ off2 = off3 := by simpa using hA3
          have bp := HYB.out p hpy
          have bq := HYB.out q hqy
          obtain ⟨vp, hvp⟩ : ∃ v, Ln.gt y p = v := ⟨_, rfl⟩
          obtain ⟨vq, hvq⟩ : ∃ v, Ln.gt y q = v := ⟨_, rfl⟩
          obtain ⟨m, hm⟩ : ∃ m, (Ln.bd bs k).m = m := ⟨_, rfl⟩
          rw [hvp] at yp bp hbk
          rw [hvq] at yq bq hbk
          rw [hm] at e2 hbk
          have bp1 := bp.1
          have bp2 := bp.2
          have bq1 := bq.1
          have bq2 := bq.2
          have HBK := Lib.hid hbk
          have hpi : (p : Int) < (y.length : Int) := by omega
          have hqi : (q : Int) < (y.length : Int) := by omega
          clear hvp hvq hm hp hq hbk hof bp bq hA3
          have hbW : b2 < wr.heap.size := by have := hB.size; omega
          have hwr : IntKind.i64.wrap (vq - vp) = vq - vp := IntWalk.i64_in _ (by omega)
          have HY2 := Lib.hid hyl2
          clear hyl2
          rcases hdec : decide (m < vq - vp) with _ | _
          · go_wp2_with fail
            go_quiet (fail)
            go_wp2_with fail
            go_roundw
            case rel => 
              refine ⟨k + 1, by omega, by go_num, fun j hj => ?_, below_drewN (hB.alloc hB.size _) _⟩
              rcases Nat.lt_or_ge j k with h | h
              · exact HA.out j h
              · obtain rfl : j = k := by omega
                rw [HBK.out]
                exact hdec
            case measure => simp [intOf]; omega
          · go_wp2_with fail
            go_quiet (fail)
            go_wp2_with fail
            go_ret3
            rw [HRES.out _ (Ln.brk_some hkl HA.out (by rw [HBK.out]; exact hdec))]
            exact ⟨rfl, below_drewN (hB.alloc hB.size _) _⟩
        · go_wp2_with fail
          go_ret3
          obtain rfl : k = bs.length := by omega
          rw [HRES.out _ (Ln.brk_none HA.out)]
          exact ⟨rfl, hB⟩
  · have hne : (Ln.check N bs != 0) = true := by simp [hch]
    have hres : Ln.keptF N bs y = (0, false, Ln.check N bs) := by rw [Ln.keptF, if_neg hch]
    rw [hres]
    clear hch hres
    go_enter Try.func17, Try.ntmps17
    go_wp2_with fail
    refine (check_any N A c bs _ hR1 hc).mono ?_
    rintro e w1 ⟨rfl, hb1⟩
    go_wp2_with fail
    go_ret3
    exact ⟨rfl, hB0.trans (hb1.mono (by simp))⟩

end Go.Proofs.Yteiaofgkmgllcaa
