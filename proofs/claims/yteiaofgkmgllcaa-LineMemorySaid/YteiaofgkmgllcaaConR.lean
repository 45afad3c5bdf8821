/-
  The reference's consistent, pointed.
-/
import Derived.Test.YteiaofgkmgllcaaPots
import Derived.Test.YteiaofgkmgllcaaRefA
import Derived.Test.YteiaofgkmgllcaaSome
set_option linter.unusedVariables false
set_option linter.unusedSimpArgs false
namespace Go.Proofs.Yteiaofgkmgllcaa.Ln

def rcK (bs : List Bd) (d : List Int) (k : Nat) : List Int × Bool := relaxL bs (List.range k) (d, false)
theorem rcK_zero (bs : List Bd) (d : List Int) : rcK bs d 0 = (d, false) := rfl
theorem rcK_succ (bs : List Bd) (d : List Int) (k : Nat) : rcK bs d (k + 1) = relax (rcK bs d k) (bd bs k) := by rw [rcK, List.range_succ, relaxL_snoc]; rfl
def settleR (bs : List Bd) : Nat → List Int → Bool
  | 0, _ => false
  | k + 1, d => if (rcK bs d bs.length).2 then settleR bs k (rcK bs d bs.length).1 else true
/-- The reference's consistent. -/
def consR (bs : List Bd) (N : Nat) : Bool := settleR bs (N + 1) (List.replicate N 0)

/-- What becomes of a state in a part of a round: all points have numbers. -/
structure Sr (bs : List Bd) (N : Nat) (d : List Int) (d' : List Int) (b' : Bool) : Prop where
  len : d'.length = N
  mono : ∀ v, v < N → gt d' v ≤ gt d v
  flag : b' = false → d' = d
  strict : b' = true → ∃ v, v < N ∧ gt d' v < gt d v
  ways : ∀ R : Nat → Int → Prop, (∀ i, Lv1 bs i → ∀ s, R (bd bs i).f.toNat s → R (bd bs i).t.toNat (s + (bd bs i).m)) → (∀ v, v < N → R v (gt d v)) → ∀ v, v < N → R v (gt d' v)

theorem rcK_sr {bs : List Bd} {N : Nat} (hok : Ok N bs) (hl : ∀ b ∈ bs, b.gone = false) (d : List Int) (hd : d.length = N) (k : Nat) (hk : k ≤ bs.length) :
    Sr bs N d (rcK bs d k).1 (rcK bs d k).2 ∧ ∀ i, i < k → gt (rcK bs d k).1 (bd bs i).t.toNat ≤ gt d (bd bs i).f.toNat + (bd bs i).m := by
  induction k with
  | zero => exact ⟨⟨hd, fun _ _ => Int.le_refl _, fun _ => rfl, fun h => (by cases h), fun _ _ h => h⟩, fun i h => by omega⟩
  | succ k ih =>
    obtain ⟨h1, h2⟩ := ih (by omega)
    have hi : Lv1 bs k := ⟨by omega, hl _ (bd_mem (by omega))⟩
    obtain ⟨hf, ht, _⟩ := hok.pts hi
    rw [rcK_succ]
    obtain ⟨⟨e, b⟩, he⟩ : ∃ s, rcK bs d k = s := ⟨_, rfl⟩
    rw [he] at h1 h2 ⊢
    have hlt : (bd bs k).t.toNat < e.length := by have := h1.len; dsimp only at this; omega
    have hmf := h1.mono _ hf
    have hmt := h1.mono _ ht
    dsimp only at hmf hmt h2
    unfold relax
    dsimp only
    split
    · rename_i h
      refine ⟨⟨by have := h1.len; simpa using this, fun v hv => ?_, fun e => (by cases e), fun _ => ⟨(bd bs k).t.toNat, ht, ?_⟩, fun R hc h0 v hv => ?_⟩, fun i hik => ?_⟩
      · dsimp only
        rw [gt_set _ _ _ _ hlt]
        have := h1.mono v hv
        dsimp only at this
        split
        · rename_i e1; subst e1; omega
        · exact this
      · dsimp only
        rw [gt_set _ _ _ _ hlt, if_pos rfl]
        omega
      · dsimp only
        rw [gt_set _ _ _ _ hlt]
        split
        · rename_i e1
          rw [e1]
          exact hc k hi _ (h1.ways R hc h0 _ hf)
        · exact h1.ways R hc h0 v hv
      · dsimp only
        rw [gt_set _ _ _ _ hlt]
        rcases Nat.lt_or_ge i k with hik2 | hik2
        · have := h2 i hik2
          split
          · rename_i e1
            rw [e1] at this
            omega
          · exact this
        · obtain rfl : i = k := by omega
          rw [if_pos rfl]
          omega
    · rename_i h
      refine ⟨h1, fun i hik => ?_⟩
      rcases Nat.lt_or_ge i k with hik2 | hik2
      · exact h2 i hik2
      · obtain rfl : i = k := by omega
        dsimp only
        omega

theorem settleR_yes {bs : List Bd} {N : Nat} (hok : Ok N bs) (hl : ∀ b ∈ bs, b.gone = false) (r : Nat) (d : List Int) (hd : d.length = N) (h : settleR bs r d = true) : ∃ y, Pot bs y := by
  induction r generalizing d with
  | zero => cases h
  | succ r ih =>
    obtain ⟨h1, h2⟩ := rcK_sr hok hl d hd bs.length (Nat.le_refl _)
    rw [settleR] at h
    split at h
    · exact ih _ h1.len h
    · rename_i hb
      have e := h1.flag (by simpa using hb)
      refine ⟨gt d, fun i hi => ?_⟩
      have := h2 i hi.1
      rw [e] at this
      exact this

theorem settleR_no {bs : List Bd} {N : Nat} (hok : Ok N bs) (hl : ∀ b ∈ bs, b.gone = false) (r : Nat) (hr : 0 < r) (d : List Int) (hd : d.length = N) (h : settleR bs r d = false) :
    ∃ v x, v < N ∧ (∀ R : Nat → Int → Prop, (∀ i, Lv1 bs i → ∀ s, R (bd bs i).f.toNat s → R (bd bs i).t.toNat (s + (bd bs i).m)) → (∀ v, v < N → R v (gt d v)) → R v x) ∧
      ∀ p l s, p < N → Pth bs p l v s → l.length + 1 ≤ r → x < gt d p + s := by
  induction r generalizing d with
  | zero => omega
  | succ r ih =>
    obtain ⟨h1, h2⟩ := rcK_sr hok hl d hd bs.length (Nat.le_refl _)
    rw [settleR] at h
    split at h
    · rename_i hb
      by_cases hr0 : 0 < r
      · obtain ⟨v, x, hv, hw, hlow⟩ := ih hr0 _ h1.len h
        refine ⟨v, x, hv, fun R hc h0 => hw R hc (h1.ways R hc h0), fun p l s hp hpath hlen => ?_⟩
        cases hpath with
        | nil p =>
          have := hlow v [] 0 hv (.nil _) (by simp; omega)
          have := h1.mono v hv
          omega
        | @cons i l q s hi hpath =>
          have hpt := hok.pts hi
          simp only [List.length_cons] at hlen
          have := hlow _ _ _ hpt.2.1 hpath (by omega)
          have := h2 i hi.1
          omega
      · obtain ⟨v, hv, hlt⟩ := h1.strict hb
        refine ⟨v, _, hv, fun R hc h0 => h1.ways R hc h0 v hv, fun p l s hp hpath hlen => ?_⟩
        cases hpath with
        | nil p => omega
        | cons => simp at hlen; omega
    · cases h

theorem rep_at {N v : Nat} (h : v < N) : gt (List.replicate N (0 : Int)) v = 0 := gt_rep h 0

/-- The reference's consistent is the program's. -/
theorem consR_eq {bs : List Bd} {N : Nat} (hok : Ok N bs) (hl : ∀ b ∈ bs, b.gone = false) : consR bs N = consF bs N := by
  have hpos := hok.pos
  have hci := cons_iff hok
  rcases h : consR bs N with _ | _
  · rcases h2 : consF bs N with _ | _
    · rfl
    · exfalso
      have hN := hci.1 h2
      obtain ⟨v, x, hv, hw, hlow⟩ := settleR_no hok hl (N + 1) (by omega) (List.replicate N 0) (by simp) h
      obtain ⟨p, l, s, hp, hpath, hx⟩ := hw (fun v x => ∃ p l s, p < N ∧ Pth bs p l v s ∧ x = s)
        (fun i hi s ⟨p, l, u, a, b, c⟩ => ⟨p, l ++ [i], u + (bd bs i).m, a, b.append (Pth.one hi), by omega⟩)
        (fun v hv => ⟨v, [], 0, hv, .nil _, rep_at hv⟩)
      obtain ⟨l', s', k1, k2, k3, _⟩ := short hok hN hpath hp
      have := hlow p l' s' hp k1 (by omega)
      rw [rep_at hp] at this
      omega
  · exact ((cons_pot hok).2 (settleR_yes hok hl _ _ (by simp) h)).symm

/-- How great the numbers can become in some rounds. -/
theorem rcK_small {bs : List Bd} {N : Nat} (hok : Ok N bs) (hl : ∀ b ∈ bs, b.gone = false) {d : List Int} (hd : d.length = N) {K : Int} (hK : ∀ v, v < N → -K ≤ gt d v ∧ gt d v ≤ 0) (k : Nat) (hk : k ≤ bs.length) :
    ∀ v, v < N → -(K + 1000000 * (k : Int)) ≤ gt (rcK bs d k).1 v ∧ gt (rcK bs d k).1 v ≤ 0 := by
  induction k with
  | zero => intro v hv; have := hK v hv; rw [rcK_zero]; dsimp only; omega
  | succ k ih =>
    intro v hv
    have ih := ih (by omega)
    have h1 := (rcK_sr hok hl d hd k (by omega)).1.len
    have hi : Lv1 bs k := ⟨by omega, hl _ (bd_mem (by omega))⟩
    obtain ⟨hf, ht, _, _, m0, m1⟩ := hok.pts hi
    rw [rcK_succ]
    unfold relax
    have e1 := ih v hv
    have e2 := ih _ hf
    have e3 := ih _ ht
    split
    · dsimp only
      rw [gt_set _ _ _ _ (by omega)]
      split <;> omega
    · omega

end Go.Proofs.Yteiaofgkmgllcaa.Ln

namespace Go.Proofs.Yteiaofgkmgllcaa
open Go.RowKit

theorem Ln.settleR_yes_now {bs : List Ln.Bd} {k : Nat} {d : List Int} (h : (Ln.rcK bs d bs.length).2 = false) : Ln.settleR bs (k + 1) d = true := by rw [Ln.settleR, if_neg (by rw [h]; simp)]
theorem Ln.settleR_on {bs : List Ln.Bd} {k : Nat} {d : List Int} (h : (Ln.rcK bs d bs.length).2 = true) : Ln.settleR bs (k + 1) d = Ln.settleR bs k (Ln.rcK bs d bs.length).1 := by rw [Ln.settleR, if_pos h]

set_option maxRecDepth 100000 in
set_option maxHeartbeats 4000000 in
theorem rconsistent_any {N : Nat} {bs : List Ln.Bd} (hok : Ln.Ok N bs) (hl : ∀ b ∈ bs, b.gone = false) (A : Option Addr) (c : Nat) (w : World) (hR : Rd w w.heap.size 4 A bs.length (bcells bs)) :
    Calls Try.prog 37 #[.agg #[.int .i64 N, .slice A bs.length c]] w fun e w' => e = .returned (.bool (Ln.consR bs N)) ∧ Below w.heap.size w w' := by
  obtain ⟨i0, hi0, hz0, hz1, hz2⟩ := info_parts info3
  have hlen := hok.len
  have htop := hok.top
  have hpos := hok.pos
  have hB0 : Below w.heap.size w (w.alloc (.cells #[.int .i64 N, .slice A bs.length c] 24)) := (Below.refl _ _).alloc (Nat.le_refl _) _
  have k0 := Bk.new w 24 #[.int .i64 N, .slice A bs.length c]
  have hB1 := hB0.alloc hB0.size (.cells (av (Ln.zerosN N)) 3)
  have k1 := k0.alloc (.cells (av (Ln.zerosN N)) 3)
  have kY := Bk.new (w.alloc (.cells #[.int .i64 N, .slice A bs.length c] 24)) 3 (av (Ln.zerosN N))
  rw [World.size_alloc] at kY
  go_enter Try.func37, Try.ntmps37
  go_wp2_with (refine wpList_make_exact _ rfl _ _ 25 rfl 3 i0 _ 1 8 Try.underlying25 hi0 hz0 hz1 hz2 N rfl rfl (by omega) (by omega) (av (Ln.zerosN N)) (by rw [Nat.mul_one]; exact made_ints _) ?_)
  obtain ⟨sb, hsb⟩ : ∃ sb, w.heap.size = sb := ⟨_, rfl⟩
  obtain ⟨gy, hgy⟩ : ∃ gy, sb + 1 = gy := ⟨_, rfl⟩
  obtain ⟨W1, hW1⟩ : ∃ W1, (w.alloc (.cells #[.int .i64 N, .slice A bs.length c] 24)).alloc (.cells (av (Ln.zerosN N)) 3) = W1 := ⟨_, rfl⟩
  simp only [hsb, hgy] at kY k1 hB1 hR ⊢
  rw [hW1] at kY k1 hB1 ⊢
  have hgs : sb + 1 = gy := hgy
  clear k0 hB0 hW1 hgy
  go_loopw [4] (fun i wr => ∃ (k : Nat) (d : List Int), k ≤ N + 1 ∧ i = .int .i64 k ∧ d.length = N ∧ Ln.consR bs N = Ln.settleR bs (N + 1 - k) d ∧ (∀ v, v < N → -(2002000000 * (k : Int)) ≤ Ln.gt d v ∧ Ln.gt d v ≤ 0) ∧
      Bk wr sb 24 #[.int .i64 N, .slice A bs.length c] ∧ Bk wr gy 3 (av d) ∧ Below sb w wr)
    (fun i _ => N + 1 - (intOf i).toNat)
  case atStart => exact ⟨0, _, Nat.zero_le _, rfl, Ln.zerosN_length _, rfl, (fun v hv => by rw [Ln.zerosN, Ln.gt_rep hv]; omega), k1, kY, hB1⟩
  case round =>
    clear kY k1 hB1
    obtain ⟨k, d, hk, rfl, hdl, hcr, hsm, k1, kY, hB⟩ := hrel
    have c0 := k1.cell 0
    simp only [List.getElem?_toArray, List.getElem?_cons_zero, List.getElem?_cons_succ] at c0
    have hs1 := k1.lt
    have HCR := Lib.hid hcr
    have HSM := Lib.hid hsm
    clear hcr hsm
    by_cases hkl : k ≤ N
    · have hkN : (k : Int) ≤ (N : Int) := by omega
      go_wp2_with fail
      go_loopw [5, 6] (fun ch i ws => ∃ j : Nat, j ≤ bs.length ∧ i = .int .i64 j ∧ ch = .bool (Ln.rcK bs d j).2 ∧
          Bk ws sb 24 #[.int .i64 N, .slice A bs.length c] ∧ Bk ws gy 3 (av (Ln.rcK bs d j).1) ∧ Below sb w ws)
        (fun _ i _ => bs.length - (intOf i).toNat)
      case atStart => exact ⟨0, Nat.zero_le _, rfl, rfl, k1, kY, hB⟩
      case round =>
        clear kY k1 hB c0 hs1
        obtain ⟨j, hj, rfl, rfl, k1, kY, hB⟩ := hrel
        have c1 := k1.cell 1
        simp only [List.getElem?_toArray, List.getElem?_cons_zero, List.getElem?_cons_succ] at c1
        have hs1 := k1.lt
        have hsm2 := Ln.rcK_small hok hl hdl (K := 2002000000 * (k : Int)) HSM.out j hj
        have hel := (Ln.rcK_sr hok hl d hdl j hj).1.len
        have hstep := Ln.rcK_succ bs d j
        obtain ⟨⟨e, ch⟩, he⟩ : ∃ s, Ln.rcK bs d j = s := ⟨_, rfl⟩
        rw [he] at kY hsm2 hel hstep
        rw [he]
        dsimp only at kY hsm2 hel ⊢
        have HE := Lib.hid he
        clear he
        by_cases hjl : j < bs.length
        · obtain ⟨b, off, hA, hb, e0, e1, e2, e3⟩ := (hR.below hB (by omega)).bound hjl
          subst hA
          rw [← Ln.bd_eq hjl] at e0 e1 e2 e3
          have hof := hok.each _ (Ln.bd_mem hjl)
          obtain ⟨p, hp⟩ : ∃ p : Nat, (Ln.bd bs j).f = p := ⟨(Ln.bd bs j).f.toNat, by omega⟩
          obtain ⟨q, hq⟩ : ∃ q : Nat, (Ln.bd bs j).t = q := ⟨(Ln.bd bs j).t.toNat, by omega⟩
          rw [hp] at e0 hof
          rw [hq] at e1 hof
          obtain ⟨m, hm⟩ : ∃ m, (Ln.bd bs j).m = m := ⟨_, rfl⟩
          rw [Ln.relax, hp, hq, hm] at hstep
          rw [hm] at e2 hof
          dsimp only at hstep
          simp only [Int.toNat_natCast] at hstep
          have hpN : p < N := by omega
          have hqN : q < N := by omega
          have bp := hsm2 p hpN
          have bq := hsm2 q hqN
          have yp := (kY.cell p).trans (av_at (by omega))
          have yq := (kY.cell q).trans (av_at (by omega))
          have fq := kY.frozen q
          obtain ⟨vp, hvp⟩ : ∃ v, Ln.gt e p = v := ⟨_, rfl⟩
          obtain ⟨vq, hvq⟩ : ∃ v, Ln.gt e q = v := ⟨_, rfl⟩
          rw [hvp] at yp bp hstep
          rw [hvq] at yq bq hstep
          have bp1 := bp.1
          have bp2 := bp.2
          have bq1 := bq.1
          have bq2 := bq.2
          have m1 : -1000000 ≤ m := by omega
          have m2 : m ≤ 1000000 := by omega
          have hjk : (j : Int) ≤ 2002 := by omega
          have vp1 : -400000000000 ≤ vp := by omega
          have vq1 : -400000000000 ≤ vq := by omega
          have HST := Lib.hid hstep
          have hpi : (p : Int) < (N : Int) := by omega
          have hqi : (q : Int) < (N : Int) := by omega
          clear hvp hvq hm hp hq hstep hof bp bq hdl hsm2 bp1 bq1
          have hbW : b < wr.heap.size := by have := hB.size; omega
          have hgl := kY.lt
          rcases hdec : decide (vp + m < vq) with _ | _
          · go_wp2_with fail
            go_quiet (fail)
            go_wp2_with fail
            go_roundw
            case rel =>
              rw [decide_eq_false_iff_not] at hdec
              have hst := HST.out
              rw [if_neg hdec] at hst
              exact ⟨j + 1, by omega, by go_num, by rw [hst], k1.alloc _, by rw [hst]; exact kY.alloc _, below_drewN (hB.alloc (by omega) _) _⟩
            case measure => simp [intOf]; omega
          · go_wp2_with fail
            go_quiet (fail)
            go_wp2_with fail
            go_region
            all_goals go_wp2_with fail
            go_roundw
            case rel =>
              rw [decide_eq_true_iff] at hdec
              have hst := HST.out
              rw [if_pos hdec] at hst
              refine ⟨j + 1, by omega, by go_num, by rw [hst], ?_, ?_, ?_⟩
              · exact (Bk.far (w := (wr.alloc _).drewN _) (k1.alloc _) (by simp; omega) _)
              · have h := Bk.set (w := (wr.alloc (.cells #[.int .i64 p, .int .i64 q, .int .i64 m, .int .i64 (Ln.bd bs j).r] 50)).drewN (nq + 1)) (kY.alloc _) q (.int .i64 (vp + m))
                rw [av_set] at h
                rw [hst]
                exact h
              · exact (below_drewN (hB.alloc (by omega) _) _).setCell (by simp; omega) _
            case measure => simp [intOf]; omega
        · obtain rfl : j = bs.length := by omega
          have hcr := HCR.out
          have hfe := HE.out
          rcases ch with _ | _
          · go_wp2_with fail
            go_ret
            rw [hcr, show N + 1 - k = (N - k) + 1 from by omega, Ln.settleR_yes_now (by rw [hfe])]
            rw [hsb]
            exact ⟨rfl, hB⟩
          · go_wp2_with fail
            go_roundw
            case rel =>
              rw [show N + 1 - k = (N - k) + 1 from by omega, Ln.settleR_on (by rw [hfe]), hfe] at hcr
              exact ⟨k + 1, e, by omega, by go_num, hel, by rw [hcr]; congr 1; omega, fun v hv => by have := hsm2 v hv; omega, k1, kY, hB⟩
            case measure => simp [intOf]; omega
    · go_wp2_with fail
      go_ret
      obtain rfl : k = N + 1 := by omega
      rw [HCR.out, Nat.sub_self]
      rw [hsb]
      exact ⟨rfl, hB⟩

end Go.Proofs.Yteiaofgkmgllcaa

namespace Go.Proofs.Yteiaofgkmgllcaa
open Go.RowKit

set_option maxRecDepth 100000 in
set_option maxHeartbeats 2000000 in
theorem rpointed_any (N : Int) (A : Option Addr) (c : Nat) (bs : List Ln.Bd) (A2 : Option Addr) (c2 : Nat) (ps : List Int) (w : World) (hR : Rd w w.heap.size 4 A bs.length (bcells bs)) (hc : Ln.Lv bs)
    (hP : Rd w w.heap.size 1 A2 ps.length (ints ps)) (hps : ps.length ≤ 1000000) :
    Calls Try.prog 55 #[.agg #[.int .i64 N, .slice A bs.length c], .slice A2 ps.length c2] w fun e w' => e = .returned (.int .i64 (Ln.soundF N bs ps)) ∧ Below w.heap.size w w' := by
  have k0 := Bk.new w 24 #[.int .i64 N, .slice A bs.length c]
  have hB0 : Below w.heap.size w (w.alloc (.cells #[.int .i64 N, .slice A bs.length c] 24)) := (Below.refl _ _).alloc (Nat.le_refl _) _
  have hR1 := (hR.below hB0 (Nat.le_refl _)).more hB0.size
  by_cases hch : Ln.check N bs = 0
  · obtain ⟨hok, hN⟩ := Ln.ok_of_check hch
    have HC := Lib.hid hch
    clear hch
    go_enter Try.func55, Try.ntmps55
    go_wp2_with fail
    refine (rcheck_any N A c bs _ hR1 hc.len).mono ?_
    rw [HC.out]
    rintro e w1 ⟨rfl, hb1⟩
    have k1 := k0.below hb1 (by simp)
    have hB1 := hB0.trans (hb1.mono (by simp))
    have hw1 := hB1.size
    go_wp2_with fail
    go_loopw [6] (fun i wr => ∃ k : Nat, k ≤ ps.length ∧ i = .int .i64 k ∧ (ps.take k).all (Ln.isPoint N) = true ∧ Below w.heap.size w wr ∧ Bk wr w.heap.size 24 #[.int .i64 N, .slice A bs.length c])
      (fun i _ => ps.length - (intOf i).toNat)
    case atStart => exact ⟨0, Nat.zero_le _, rfl, rfl, hB1, k1⟩
    case round =>
      clear k1 hB1
      obtain ⟨k, hk, rfl, ha, hB, hK⟩ := hrel
      have hlt := hK.lt
      have c0 := hK.cell 0
      have c1 := hK.cell 1
      simp only [List.getElem?_toArray, List.getElem?_cons_zero, List.getElem?_cons_succ] at c0 c1
      by_cases hkl : k < ps.length
      · obtain ⟨b, off, rfl, hb, e0⟩ := (hP.below hB (Nat.le_refl _)).one hkl
        have hat := pts_take hkl ha
        have hbad := Ln.cpF_no (ps := ps) HC.out hkl
        obtain ⟨p, hp⟩ : ∃ p, ps[k] = p := ⟨_, rfl⟩
        rw [hp] at e0 hat hbad
        have HA := Lib.hid hat
        have HB := Lib.hid hbad
        have hbW : b < wr.heap.size := by have := hB.size; omega
        clear hat hbad hp ha
        rcases h0 : decide (p < 0) with _ | _
        · rcases h1 : decide (N ≤ p) with _ | _
          · have hv : Ln.isPoint N p = true := by simp at h0 h1; simp [Ln.isPoint]; omega
            have HV := Lib.hid hv
            clear hv
            go_wp2_with fail
            go_quiet (fail)
            go_wp2_with fail
            go_roundw
            case rel => exact ⟨k + 1, by omega, by go_num, HA.out HV.out, below_drewN hB _, hK⟩
            case measure => simp [intOf]; omega
          · have hv : Ln.isPoint N p = false := by simp at h1; simp [Ln.isPoint]; omega
            have HV := Lib.hid hv
            clear hv
            go_wp2_with fail
            go_quiet (fail)
            go_wp2_with fail
            go_ret
            rw [Ln.soundF, HB.out HV.out, if_neg (by decide)]
            exact ⟨rfl, below_drewN hB _⟩
        · have hv : Ln.isPoint N p = false := by simp at h0; simp [Ln.isPoint]; omega
          have HV := Lib.hid hv
          clear hv
          go_wp2_with fail
          go_quiet (fail)
          go_wp2_with fail
          go_ret
          rw [Ln.soundF, HB.out HV.out, if_neg (by decide)]
          exact ⟨rfl, below_drewN hB _⟩
      · obtain rfl : k = ps.length := by omega
        have hcp := Ln.cpF_ok HC.out ha
        obtain ⟨M, hM⟩ : ∃ M, N.toNat = M := ⟨_, rfl⟩
        have hcr := Ln.consR_eq hok hc.live
        have hs : Ln.soundF N bs ps = if Ln.consF bs N.toNat then 0 else 10 := by rw [Ln.soundF, if_pos hcp]
        rw [← hcr] at hs
        rw [hM] at hok hN hs
        have hR2 := (hR.below hB (Nat.le_refl _)).more hB.size
        have HS := Lib.hid hs
        clear hcr hs hM
        subst hN
        rcases hco : Ln.consR bs M with _ | _
        all_goals
          have HCO := Lib.hid hco
          clear hco
          go_wp2_with fail
          refine (rconsistent_any hok hc.live A c _ hR2).mono ?_
          rw [HCO.out]
          rintro e w2 ⟨rfl, hb2⟩
          go_wp2_with fail
          go_ret
          rw [HS.out, HCO.out]
          exact ⟨rfl, hB.trans (hb2.mono hB.size)⟩
  · have hne : (Ln.check N bs != 0) = true := by simp [hch]
    have hs : Ln.soundF N bs ps = Ln.check N bs := by rw [Ln.soundF, Ln.cpF_bad hch, if_neg hch]
    rw [hs]
    clear hch hs
    go_enter Try.func55, Try.ntmps55
    go_wp2_with fail
    refine (rcheck_any N A c bs _ hR1 hc.len).mono ?_
    rintro e w1 ⟨rfl, hb1⟩
    go_wp2_with fail
    go_ret
    exact ⟨rfl, hB0.trans (hb1.mono (by simp))⟩

end Go.Proofs.Yteiaofgkmgllcaa

