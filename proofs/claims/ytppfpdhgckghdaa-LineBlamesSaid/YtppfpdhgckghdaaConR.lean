/-
  The reference's consistent.
-/
import Derived.Test.YtppfpdhgckghdaaRefA
import Derived.Test.YtppfpdhgckghdaaSome
import Derived.Test.YtppfpdhgckghdaaPotr
set_option linter.unusedVariables false
set_option linter.unusedSimpArgs false
namespace Go.Proofs.Ytppfpdhgckghdaa
open Go.RowKit

theorem Ln.settleR_yes_now {bs : List Ln.Bd} {k : Nat} {d : List Int} (h : (Ln.rcK bs d bs.length).2 = false) : Ln.settleR bs (k + 1) d = true := by rw [Ln.settleR, if_neg (by rw [h]; simp)]
theorem Ln.settleR_on {bs : List Ln.Bd} {k : Nat} {d : List Int} (h : (Ln.rcK bs d bs.length).2 = true) : Ln.settleR bs (k + 1) d = Ln.settleR bs k (Ln.rcK bs d bs.length).1 := by rw [Ln.settleR, if_pos h]

set_option maxRecDepth 100000 in
set_option maxHeartbeats 4000000 in
theorem rconsistent_any {N : Nat} {bs : List Ln.Bd} (hok : Ln.Ok N bs) (hl : ∀ b ∈ bs, b.gone = false) (A : Option Addr) (c : Nat) (w : World) (hR : Rd w w.heap.size 4 A bs.length (bcells bs)) :
    Calls Try.prog 56 #[.agg #[.int .i64 N, .slice A bs.length c]] w fun e w' => e = .returned (.bool (Ln.consR bs N)) ∧ Below w.heap.size w w' := by
  obtain ⟨i0, hi0, hz0, hz1, hz2⟩ := info_parts info3
  have hlen := hok.len
  have htop := hok.top
  have hpos := hok.pos
  have hB0 : Below w.heap.size w (w.alloc (.cells #[.int .i64 N, .slice A bs.length c] 24)) := (Below.refl _ _).alloc (Nat.le_refl _) _
  have k0 := Bk.new w 24 #[.int .i64 N, .slice A bs.length c]
  have hB1 := hB0.alloc hB0.size (.cells (av (Ln.zerosN N)) 3)
  have k1 := k0.alloc (.cells (av (Ln.zerosN N)) 3)
  have kY := Bk.new (w.alloc (.cells #[.int .i64 N, .slice A bs.length c] 24)) 3 (av (Ln.zerosN N))
  rw [World.size_alloc] at kY
  go_enter Try.func56, Try.ntmps56
  go_wp2_with (refine wpList_make_exact _ rfl _ _ 25 rfl 3 i0 _ 1 8 Try.underlying25 hi0 hz0 hz1 hz2 N rfl rfl (by omega) (by omega) (av (Ln.zerosN N)) (by rw [Nat.mul_one]; exact made_ints _) ?_)
  obtain ⟨sb, hsb⟩ : ∃ sb, w.heap.size = sb := ⟨_, rfl⟩
  obtain ⟨gy, hgy⟩ : ∃ gy, sb + 1 = gy := ⟨_, rfl⟩
  obtain ⟨W1, hW1⟩ : ∃ W1, (w.alloc (.cells #[.int .i64 N, .slice A bs.length c] 24)).alloc (.cells (av (Ln.zerosN N)) 3) = W1 := ⟨_, rfl⟩
  simp only [hsb, hgy] at kY k1 hB1 hR ⊢
  rw [hW1] at kY k1 hB1 ⊢
  have hgs : sb + 1 = gy := hgy
  clear k0 hB0 hW1 hgy
  go_loopw [4] (fun i wr => ∃ (k : Nat) (d : List Int), k ≤ N + 1 ∧ i = .int .i64 k ∧ d.length = N ∧ Ln.consR bs N = Ln.settleR bs (N + 1 - k) d ∧ (∀ v, v < N → -(2002000000 * (k : Int)) ≤ Ln.gt d v ∧ Ln.gt d v ≤ 0) ∧
      Bk wr sb 24 #[.int .i64 N, .slice A bs.length c] ∧ Bk wr gy 3 (av d) ∧ Below sb w wr)
    (fun i _ => N + 1 - (intOf i).toNat)
  case atStart => exact ⟨0, _, Nat.zero_le _, rfl, Ln.zerosN_length _, rfl, (fun v hv => by rw [Ln.zerosN, Ln.gt_rep hv]; omega), k1, kY, hB1⟩
  case round =>
    clear kY k1 hB1
    obtain ⟨k, d, hk, rfl, hdl, hcr, hsm, k1, kY, hB⟩ := hrel
    have c0 := k1.cell 0
    simp only [List.getElem?_toArray, List.getElem?_cons_zero, List.getElem?_cons_succ] at c0
    have hs1 := k1.lt
    have HCR := Lib.hid hcr
    have HSM := Lib.hid hsm
    clear hcr hsm
    by_cases hkl : k ≤ N
    · have hkN : (k : Int) ≤ (N : Int) := by omega
      go_wp2_with fail
      go_loopw [5, 6] (fun ch i ws => ∃ j : Nat, j ≤ bs.length ∧ i = .int .i64 j ∧ ch = .bool (Ln.rcK bs d j).2 ∧
          Bk ws sb 24 #[.int .i64 N, .slice A bs.length c] ∧ Bk ws gy 3 (av (Ln.rcK bs d j).1) ∧ Below sb w ws)
        (fun _ i _ => bs.length - (intOf i).toNat)
      case atStart => exact ⟨0, Nat.zero_le _, rfl, rfl, k1, kY, hB⟩
      case round =>
        clear kY k1 hB c0 hs1
        obtain ⟨j, hj, rfl, rfl, k1, kY, hB⟩ := hrel
        have c1 := k1.cell 1
        simp only [List.getElem?_toArray, List.getElem?_cons_zero, List.getElem?_cons_succ] at c1
        have hs1 := k1.lt
        have hsm2 := Ln.rcK_small hok hl hdl (K := 2002000000 * (k : Int)) HSM.out j hj
        have hel := (Ln.rcK_sr hok hl d hdl j hj).1.len
        have hstep := Ln.rcK_succ bs d j
        obtain ⟨⟨e, ch⟩, he⟩ : ∃ s, Ln.rcK bs d j = s := ⟨_, rfl⟩
        rw [he] at kY hsm2 hel hstep
        rw [he]
        dsimp only at kY hsm2 hel ⊢
        have HE := Lib.hid he
        clear he
        by_cases hjl : j < bs.length
        · obtain ⟨b, off, hA, hb, e0, e1, e2, e3⟩ := (hR.below hB (by omega)).bound hjl
          subst hA
          rw [← Ln.bd_eq hjl] at e0 e1 e2 e3
          have hof := hok.each _ (Ln.bd_mem hjl)
          obtain ⟨p, hp⟩ : ∃ p : Nat, (Ln.bd bs j).f = p := ⟨(Ln.bd bs j).f.toNat, by omega⟩
          obtain ⟨q, hq⟩ : ∃ q : Nat, (Ln.bd bs j).t = q := ⟨(Ln.bd bs j).t.toNat, by omega⟩
          rw [hp] at e0 hof
          rw [hq] at e1 hof
          obtain ⟨m, hm⟩ : ∃ m, (Ln.bd bs j).m = m := ⟨_, rfl⟩
          rw [Ln.relax, hp, hq, hm] at hstep
          rw [hm] at e2 hof
          dsimp only at hstep
          simp only [Int.toNat_natCast] at hstep
          have hpN : p < N := by omega
          have hqN : q < N := by omega
          have bp := hsm2 p hpN
          have bq := hsm2 q hqN
          have yp := (kY.cell p).trans (av_at (by omega))
          have yq := (kY.cell q).trans (av_at (by omega))
          have fq := kY.frozen q
          obtain ⟨vp, hvp⟩ : ∃ v, Ln.gt e p = v := ⟨_, rfl⟩
          obtain ⟨vq, hvq⟩ : ∃ v, Ln.gt e q = v := ⟨_, rfl⟩
          rw [hvp] at yp bp hstep
          rw [hvq] at yq bq hstep
          have bp1 := bp.1
          have bp2 := bp.2
          have bq1 := bq.1
          have bq2 := bq.2
          have m1 : -1000000 ≤ m := by omega
          have m2 : m ≤ 1000000 := by omega
          have hjk : (j : Int) ≤ 2002 := by omega
          have vp1 : -400000000000 ≤ vp := by omega
          have vq1 : -400000000000 ≤ vq := by omega
          have HST := Lib.hid hstep
          have hpi : (p : Int) < (N : Int) := by omega
          have hqi : (q : Int) < (N : Int) := by omega
          clear hvp hvq hm hp hq hstep hof bp bq hdl hsm2 bp1 bq1
          have hbW : b < wr.heap.size := by have := hB.size; omega
          have hgl := kY.lt
          rcases hdec : decide (vp + m < vq) with _ | _
          · go_wp2_with fail
            go_quiet (fail)
            go_wp2_with fail
            go_roundw
            case rel =>
              rw [decide_eq_false_iff_not] at hdec
              have hst := HST.out
              rw [if_neg hdec] at hst
              exact ⟨j + 1, by omega, by go_num, by rw [hst], k1.alloc _, by rw [hst]; exact kY.alloc _, below_drewN (hB.alloc (by omega) _) _⟩
            case measure => simp [intOf]; omega
          · go_wp2_with fail
            go_quiet (fail)
            go_wp2_with fail
            go_region
            all_goals go_wp2_with fail
            go_roundw
            case rel =>
              rw [decide_eq_true_iff] at hdec
              have hst := HST.out
              rw [if_pos hdec] at hst
              refine ⟨j + 1, by omega, by go_num, by rw [hst], ?_, ?_, ?_⟩
              · exact (Bk.far (w := (wr.alloc _).drewN _) (k1.alloc _) (by simp; omega) _)
              · have h := Bk.set (w := (wr.alloc (.cells #[.int .i64 p, .int .i64 q, .int .i64 m, .int .i64 (Ln.bd bs j).r] 63)).drewN (nq + 1)) (kY.alloc _) q (.int .i64 (vp + m))
                rw [av_set] at h
                rw [hst]
                exact h
              · exact (below_drewN (hB.alloc (by omega) _) _).setCell (by simp; omega) _
            case measure => simp [intOf]; omega
        · obtain rfl : j = bs.length := by omega
          have hcr := HCR.out
          have hfe := HE.out
          rcases ch with _ | _
          · go_wp2_with fail
            go_ret
            rw [hcr, show N + 1 - k = (N - k) + 1 from by omega, Ln.settleR_yes_now (by rw [hfe])]
            rw [hsb]
            exact ⟨rfl, hB⟩
          · go_wp2_with fail
            go_roundw
            case rel =>
              rw [show N + 1 - k = (N - k) + 1 from by omega, Ln.settleR_on (by rw [hfe]), hfe] at hcr
              exact ⟨k + 1, e, by omega, by go_num, hel, by rw [hcr]; congr 1; omega, fun v hv => by have := hsm2 v hv; omega, k1, kY, hB⟩
            case measure => simp [intOf]; omega
    · go_wp2_with fail
      go_ret
      obtain rfl : k = N + 1 := by omega
      rw [HCR.out, Nat.sub_self]
      rw [hsb]
      exact ⟨rfl, hB⟩

end Go.Proofs.Ytppfpdhgckghdaa
