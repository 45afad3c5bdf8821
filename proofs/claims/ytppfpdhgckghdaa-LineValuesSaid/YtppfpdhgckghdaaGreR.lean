/-
  The reference's Greatest and Least.
-/
import Derived.Test.YtppfpdhgckghdaaLeaP
import Derived.Test.YtppfpdhgckghdaaDsR
set_option linter.unusedVariables false
set_option linter.unusedSimpArgs false
namespace Go.Proofs.Ytppfpdhgckghdaa
open Go.RowKit

namespace Ln
theorem grF_bad {N : Int} {bs : List Bd} (h : soundF N bs [] ≠ 0) : grF N bs = ([], soundF N bs []) := by rw [grF, if_neg h]
theorem leF_bad {N : Int} {bs : List Bd} (h : soundF N bs [] ≠ 0) : leF N bs = ([], soundF N bs []) := by
  rw [leF, grF_bad (by rw [sound_rev]; exact h), sound_rev]
  rfl
theorem grF_ref {N : Int} {bs : List Bd} (h : soundF N bs [] = 0) :
    (∀ k, k < N.toNat → gt (distF bs N.toNat 0) k = NONE → grF N bs = ([], 5)) ∧ ((∀ p, p < N.toNat → gt (distF bs N.toNat 0) p ≠ NONE) → grF N bs = ((List.range N.toNat).map (fun p => gt (distF bs N.toNat 0) p), 0)) := by
  obtain ⟨_, hc, hk⟩ := sound_zero h
  obtain ⟨hok, hNt⟩ := ok_of_check hk
  have htop := hok.top
  have hl := (distF_small hok 0).1
  rw [grF, if_pos h]
  refine ⟨fun k hkl hn => ?_, fun hall => ?_⟩
  · rw [if_pos ((none_mem (by omega)).2 ⟨k, hkl, hn⟩)]
  · rw [if_neg (fun hm => by obtain ⟨k, hkl, e⟩ := (none_mem (by omega)).1 hm; exact hall k hkl e), take_eq (by omega)]
theorem leF_ref {N : Int} {bs : List Bd} (h : soundF N bs [] = 0) :
    (∀ k, k < N.toNat → gt (distF bs N.toNat k) 0 = NONE → leF N bs = ([], 5)) ∧ ((∀ p, p < N.toNat → gt (distF bs N.toNat p) 0 ≠ NONE) → leF N bs = ((List.range N.toNat).map (fun p => -gt (distF bs N.toNat p) 0), 0)) := by
  obtain ⟨_, hc, hk⟩ := sound_zero h
  obtain ⟨hok, hNt⟩ := ok_of_check hk
  have hN := (cons_iff hok).1 hc
  have hpos := hok.pos
  have hr : soundF N (revs bs) [] = 0 := by rw [sound_rev]; exact h
  have hd : ∀ p, p < N.toNat → gt (distF (revs bs) N.toNat 0) p = gt (distF bs N.toNat p) 0 := fun p hp => dist_rev hok hN (by omega) hp
  obtain ⟨h1, h2⟩ := grF_ref hr
  refine ⟨fun k hkl hn => ?_, fun hall => ?_⟩
  · rw [leF, h1 k hkl (by rw [hd k hkl]; exact hn)]
    rfl
  · rw [leF, h2 (fun p hp => by rw [hd p hp]; exact hall p hp)]
    dsimp only
    rw [List.map_map]
    congr 1
    refine List.map_congr_left fun p hp => ?_
    show -gt (distF (revs bs) N.toNat 0) p = _
    rw [hd p (List.mem_range.1 hp)]
end Ln

set_option maxRecDepth 100000 in
set_option maxHeartbeats 2000000 in
theorem rgreatest_any (N : Int) (A : Option Addr) (c : Nat) (bs : List Ln.Bd) (w : World) (hR : Rd w w.heap.size 4 A bs.length (bcells bs)) (hc : Ln.Lv bs) (h14 : Ln.check N bs = 0 → N ≤ 14) :
    Calls Try.prog 33 #[.agg #[.int .i64 N, .slice A bs.length c]] w fun e w' => ∃ V, e = .returned (.tuple #[V, .int .i64 (Ln.grF N bs).2]) ∧ w'.ownsRow w.heap.size 3 1 V (Ln.grF N bs).1.length (ints (Ln.grF N bs).1) ∧ Below w.heap.size w w' := by
  obtain ⟨i0, hi0, hz0, hz1, hz2⟩ := info_parts info3
  have hB0 : Below w.heap.size w (w.alloc (.cells #[.int .i64 N, .slice A bs.length c] 24)) := (Below.refl _ _).alloc (Nat.le_refl _) _
  have hR1 := (hR.below hB0 (Nat.le_refl _)).more hB0.size
  have k0 := Bk.new w 24 #[.int .i64 N, .slice A bs.length c]
  have hP0 : ∀ w : World, Rd w w.heap.size 1 none ([] : List Int).length (ints []) := fun w => Rd.nil _ _ _ _
  by_cases hs : Ln.soundF N bs [] = 0
  · have hgr := Ln.grF_ref hs
    obtain ⟨hcp, hco, hck⟩ := Ln.sound_zero hs
    obtain ⟨hok, hNt⟩ := Ln.ok_of_check hck
    have htop := hok.top
    have hpos := hok.pos
    have h14' := h14 hck
    obtain ⟨n, hn⟩ : ∃ n, N.toNat = n := ⟨_, rfl⟩
    rw [hn] at hok hNt htop hpos hgr
    subst hNt
    obtain ⟨res, hres⟩ : ∃ res, Ln.grF (n : Int) bs = res := ⟨_, rfl⟩
    rw [hres] at hgr ⊢
    obtain ⟨hg1, hg2⟩ := hgr
    have HG1 := Lib.hid hg1
    have HG2 := Lib.hid hg2
    have HS := Lib.hid hs
    clear hs hcp hco hck hg1 hg2 hres
    go_enter Try.func33, Try.ntmps33
    go_wp2_with fail
    refine (rpointed_any (n : Int) A c bs none 0 [] _ hR1 hc (hP0 _) (by simp)).mono ?_
    rw [HS.out]
    rintro e w1 ⟨rfl, hb1⟩
    have k1 := k0.below hb1 (by simp)
    have hB1 := hB0.trans (hb1.mono hB0.size)
    have hR2 := (hR.below hB1 (Nat.le_refl _)).more hB1.size
    have c0 := k1.cell 0
    have c1 := k1.cell 1
    simp only [List.getElem?_toArray, List.getElem?_cons_zero, List.getElem?_cons_succ] at c0 c1
    go_wp2_with fail
    refine (matrix_sound HS.out hc h14' A c _ hR2).mono ?_
    rintro e w2 ⟨G, blk, D, rfl, hM, hA, hG, hb2, hD, hsm⟩
    have k2 := k1.below hb2 k1.lt
    have hB2 := hB1.trans (hb2.mono hB1.size)
    rw [hn] at hM hA hD hsm ⊢
    have hDb : ∀ a b, a < n → b < n → D a b = Ln.ffar (Ln.gt (Ln.distF bs n a) b) := fun a b ha hb => by
      rw [hD a b ha hb, Ln.dF, hn, Int.toNat_natCast, Int.toNat_natCast]
    obtain ⟨T, hT⟩ : ∃ T, w2.heap.size = T := ⟨_, rfl⟩
    have lG := hM.out.lt
    have hblk : ∀ i, i < n → blk i < T := fun i hi => by have := (hM.row i hi).lt; omega
    rw [hT] at lG
    have hTw : w.heap.size + 1 ≤ T := by have := k2.lt; omega
    have HBLK := Lib.hid hblk
    have HDB := Lib.hid hDb
    have HSM := Lib.hid hsm
    clear hblk hDb hD hsm hA c0 c1 k0 k1 hB0 hR1
    go_wp2_with fail
    go_loopw [6, 7] (fun S i wr => ∃ k : Nat, k ≤ n ∧ i = .int .i64 k ∧ (∀ p, p < k → Ln.gt (Ln.distF bs n 0) p ≠ Ln.NONE) ∧ wr.ownsRow T 3 1 S k (ints ((List.range k).map (fun p => Ln.gt (Ln.distF bs n 0) p))) ∧
        Bk wr w.heap.size 24 #[.int .i64 (n : Int), .slice A bs.length c] ∧ MM wr G n blk D ∧ T ≤ wr.heap.size ∧ Below w.heap.size w wr)
      (fun _ i _ => n - (intOf i).toNat)
    case atStart => exact ⟨0, Nat.zero_le _, rfl, fun p hp => by omega, own_none _ _ _, k2, hM, by omega, hB2⟩
    case round =>
      clear hM k2 hB2 hT
      obtain ⟨k, hk, rfl, hpre, hS, kk, hM, hTs, hB⟩ := hrel
      have c0 := kk.cell 0
      simp only [List.getElem?_toArray, List.getElem?_cons_zero, List.getElem?_cons_succ] at c0
      have hk1 := kk.lt
      have HPRE := Lib.hid hpre
      clear hpre
      by_cases hkl : k < n
      · have hk0 : (0 : Int) ≤ (k : Int) := Int.natCast_nonneg _
        have hkn : (k : Int) < (n : Int) := by omega
        have hn0 : (0 : Int) < (n : Int) := by omega
        have o1 := hM.cellO (show 0 < n by omega)
        obtain ⟨v1, v2⟩ := hM.cells (show 0 < n by omega) hkl
        have lGG := hM.out.lt
        have la := (hM.row 0 (by omega)).lt
        have hxs := HDB.out 0 k (by omega) hkl
        have hsm := HSM.out 0 k (by omega) hkl
        obtain ⟨⟨x, p⟩, hx⟩ : ∃ z, D 0 k = z := ⟨_, rfl⟩
        rw [hx] at v1 v2 hxs hsm
        skip
        dsimp only at v1 v2 hsm
        have hp1 : p = false → Ln.gt (Ln.distF bs n 0) k = Ln.NONE := fun h => by
          rw [Ln.ffar] at hxs
          split at hxs
          · assumption
          · rw [h] at hxs; simp at hxs
        have hp2 : p = true → Ln.gt (Ln.distF bs n 0) k = x ∧ Ln.gt (Ln.distF bs n 0) k ≠ Ln.NONE := fun h => by
          rw [Ln.ffar] at hxs
          split at hxs
          · rw [h] at hxs; simp at hxs
          · rename_i hne
            simp at hxs
            exact ⟨hxs.1.symm, hne⟩
        have HP1 := Lib.hid hp1
        have HP2 := Lib.hid hp2
        clear hp1 hp2 hx hxs
        rcases p with _ | _
        · go_wp2_with fail
          go_ret2
          have h1 := HG1.out k hkl (HP1.out (by simp))
          rw [h1]
          exact ⟨_, rfl, own_none _ _ _, hB⟩
        · go_wp2_with (at_builtin; refine wpList_app1 rfl _ _ 25 rfl 3 i0 _ 8 Try.underlying25 hi0 hz0 hz1 hz2 rfl T u6 k _ (.int .i64 (x)) wr rfl hS rfl rfl (by unfold maxLen; omega) (by omega) hTs ?_; intro g1 cap1 w3 hS3 hg3 hat3 hlt3)
          have REL := Lib.hid (And.intro hS3 (And.intro (kk.grown hg3 (fun e => by have := (hS.lt _ e.symm).1; omega)) (And.intro (hM.grown hg3 (fun j e => (hS.lt j e).1) lG HBLK.out) (And.intro hg3.size (hB.grown hg3 (by omega) (fun j e => by have := (hS.lt j e).1; omega))))))
          go_roundw
          case rel =>
            obtain ⟨hS4, kk4, hM4, hs4, hB4⟩ := REL.out
            refine ⟨k + 1, by omega, by go_num, fun p hp => ?_, ?_, kk4, hM4, by omega, hB4⟩
            · by_cases e : p = k
              · subst e; exact (HP2.out (by simp)).2
              · exact HPRE.out p (by omega)
            · rw [List.range_succ, List.map_append, List.map_singleton, (HP2.out (by simp)).1, ← ints_snoc]
              exact hS4
          case measure => simp [intOf]; omega
      · obtain rfl : k = n := by omega
        have REL := Lib.hid (And.intro hS hB)
        clear hS hB hM kk
        go_wp2_with fail
        go_ret2
        have h2 := HG2.out HPRE.out
        rw [h2]
        exact ⟨_, rfl, by simpa using own_base REL.out.1 (by omega), REL.out.2⟩
  · rw [show Ln.grF N bs = ([], Ln.soundF N bs []) from Ln.grF_bad hs]
    have hne : (Ln.soundF N bs [] != 0) = true := by simp [hs]
    have hcall := rpointed_any N A c bs none 0 [] _ hR1 hc (hP0 _) (by simp)
    obtain ⟨s, hss⟩ : ∃ s, Ln.soundF N bs [] = s := ⟨_, rfl⟩
    rw [hss] at hne hcall ⊢
    have HC := Lib.hid hcall
    clear hs hss hcall
    go_enter Try.func33, Try.ntmps33
    go_wp2_with fail
    refine HC.out.mono ?_
    rintro e w1 ⟨rfl, hb1⟩
    go_wp2_with fail
    go_ret2
    exact ⟨_, rfl, own_none _ _ _, hB0.trans (hb1.mono hB0.size)⟩

set_option maxRecDepth 100000 in
set_option maxHeartbeats 2000000 in
theorem rleast_any (N : Int) (A : Option Addr) (c : Nat) (bs : List Ln.Bd) (w : World) (hR : Rd w w.heap.size 4 A bs.length (bcells bs)) (hc : Ln.Lv bs) (h14 : Ln.check N bs = 0 → N ≤ 14) :
    Calls Try.prog 35 #[.agg #[.int .i64 N, .slice A bs.length c]] w fun e w' => ∃ V, e = .returned (.tuple #[V, .int .i64 (Ln.leF N bs).2]) ∧ w'.ownsRow w.heap.size 3 1 V (Ln.leF N bs).1.length (ints (Ln.leF N bs).1) ∧ Below w.heap.size w w' := by
  obtain ⟨i0, hi0, hz0, hz1, hz2⟩ := info_parts info3
  have hB0 : Below w.heap.size w (w.alloc (.cells #[.int .i64 N, .slice A bs.length c] 24)) := (Below.refl _ _).alloc (Nat.le_refl _) _
  have hR1 := (hR.below hB0 (Nat.le_refl _)).more hB0.size
  have k0 := Bk.new w 24 #[.int .i64 N, .slice A bs.length c]
  have hP0 : ∀ w : World, Rd w w.heap.size 1 none ([] : List Int).length (ints []) := fun w => Rd.nil _ _ _ _
  by_cases hs : Ln.soundF N bs [] = 0
  · have hgr := Ln.leF_ref hs
    obtain ⟨hcp, hco, hck⟩ := Ln.sound_zero hs
    obtain ⟨hok, hNt⟩ := Ln.ok_of_check hck
    have htop := hok.top
    have hpos := hok.pos
    have h14' := h14 hck
    obtain ⟨n, hn⟩ : ∃ n, N.toNat = n := ⟨_, rfl⟩
    rw [hn] at hok hNt htop hpos hgr
    subst hNt
    obtain ⟨res, hres⟩ : ∃ res, Ln.leF (n : Int) bs = res := ⟨_, rfl⟩
    rw [hres] at hgr ⊢
    obtain ⟨hg1, hg2⟩ := hgr
    have HG1 := Lib.hid hg1
    have HG2 := Lib.hid hg2
    have HS := Lib.hid hs
    clear hs hcp hco hck hg1 hg2 hres
    go_enter Try.func35, Try.ntmps35
    go_wp2_with fail
    refine (rpointed_any (n : Int) A c bs none 0 [] _ hR1 hc (hP0 _) (by simp)).mono ?_
    rw [HS.out]
    rintro e w1 ⟨rfl, hb1⟩
    have k1 := k0.below hb1 (by simp)
    have hB1 := hB0.trans (hb1.mono hB0.size)
    have hR2 := (hR.below hB1 (Nat.le_refl _)).more hB1.size
    have c0 := k1.cell 0
    have c1 := k1.cell 1
    simp only [List.getElem?_toArray, List.getElem?_cons_zero, List.getElem?_cons_succ] at c0 c1
    go_wp2_with fail
    refine (matrix_sound HS.out hc h14' A c _ hR2).mono ?_
    rintro e w2 ⟨G, blk, D, rfl, hM, hA, hG, hb2, hD, hsm⟩
    have k2 := k1.below hb2 k1.lt
    have hB2 := hB1.trans (hb2.mono hB1.size)
    rw [hn] at hM hA hD hsm ⊢
    have hDb : ∀ a b, a < n → b < n → D a b = Ln.ffar (Ln.gt (Ln.distF bs n a) b) := fun a b ha hb => by
      rw [hD a b ha hb, Ln.dF, hn, Int.toNat_natCast, Int.toNat_natCast]
    obtain ⟨T, hT⟩ : ∃ T, w2.heap.size = T := ⟨_, rfl⟩
    have lG := hM.out.lt
    have hblk : ∀ i, i < n → blk i < T := fun i hi => by have := (hM.row i hi).lt; omega
    rw [hT] at lG
    have hTw : w.heap.size + 1 ≤ T := by have := k2.lt; omega
    have HBLK := Lib.hid hblk
    have HDB := Lib.hid hDb
    have HSM := Lib.hid hsm
    clear hblk hDb hD hsm hA c0 c1 k0 k1 hB0 hR1
    go_wp2_with fail
    go_loopw [6, 7] (fun S i wr => ∃ k : Nat, k ≤ n ∧ i = .int .i64 k ∧ (∀ p, p < k → Ln.gt (Ln.distF bs n p) 0 ≠ Ln.NONE) ∧ wr.ownsRow T 3 1 S k (ints ((List.range k).map (fun p => -Ln.gt (Ln.distF bs n p) 0))) ∧
        Bk wr w.heap.size 24 #[.int .i64 (n : Int), .slice A bs.length c] ∧ MM wr G n blk D ∧ T ≤ wr.heap.size ∧ Below w.heap.size w wr)
      (fun _ i _ => n - (intOf i).toNat)
    case atStart => exact ⟨0, Nat.zero_le _, rfl, fun p hp => by omega, own_none _ _ _, k2, hM, by omega, hB2⟩
    case round =>
      clear hM k2 hB2 hT
      obtain ⟨k, hk, rfl, hpre, hS, kk, hM, hTs, hB⟩ := hrel
      have c0 := kk.cell 0
      simp only [List.getElem?_toArray, List.getElem?_cons_zero, List.getElem?_cons_succ] at c0
      have hk1 := kk.lt
      have HPRE := Lib.hid hpre
      clear hpre
      by_cases hkl : k < n
      · have hk0 : (0 : Int) ≤ (k : Int) := Int.natCast_nonneg _
        have hkn : (k : Int) < (n : Int) := by omega
        have hn0 : (0 : Int) < (n : Int) := by omega
        have o1 := hM.cellO hkl
        obtain ⟨v1, v2⟩ := hM.cells hkl (show 0 < n by omega)
        have lGG := hM.out.lt
        have la := (hM.row k hkl).lt
        have hxs := HDB.out k 0 hkl (by omega)
        have hsm := HSM.out k 0 hkl (by omega)
        obtain ⟨⟨x, p⟩, hx⟩ : ∃ z, D k 0 = z := ⟨_, rfl⟩
        rw [hx] at v1 v2 hxs hsm
        simp only [Nat.zero_mul, Nat.zero_add] at v1 v2
        dsimp only at v1 v2 hsm
        have hp1 : p = false → Ln.gt (Ln.distF bs n k) 0 = Ln.NONE := fun h => by
          rw [Ln.ffar] at hxs
          split at hxs
          · assumption
          · rw [h] at hxs; simp at hxs
        have hp2 : p = true → Ln.gt (Ln.distF bs n k) 0 = x ∧ Ln.gt (Ln.distF bs n k) 0 ≠ Ln.NONE := fun h => by
          rw [Ln.ffar] at hxs
          split at hxs
          · rw [h] at hxs; simp at hxs
          · rename_i hne
            simp at hxs
            exact ⟨hxs.1.symm, hne⟩
        have HP1 := Lib.hid hp1
        have HP2 := Lib.hid hp2
        clear hp1 hp2 hx hxs
        rcases p with _ | _
        · go_wp2_with fail
          go_ret2
          have h1 := HG1.out k hkl (HP1.out (by simp))
          rw [h1]
          exact ⟨_, rfl, own_none _ _ _, hB⟩
        · go_wp2_with (at_builtin; refine wpList_app1 rfl _ _ 25 rfl 3 i0 _ 8 Try.underlying25 hi0 hz0 hz1 hz2 rfl T u6 k _ (.int .i64 (-x)) wr rfl hS rfl rfl (by unfold maxLen; omega) (by omega) hTs ?_; intro g1 cap1 w3 hS3 hg3 hat3 hlt3)
          have REL := Lib.hid (And.intro hS3 (And.intro (kk.grown hg3 (fun e => by have := (hS.lt _ e.symm).1; omega)) (And.intro (hM.grown hg3 (fun j e => (hS.lt j e).1) lG HBLK.out) (And.intro hg3.size (hB.grown hg3 (by omega) (fun j e => by have := (hS.lt j e).1; omega))))))
          go_roundw
          case rel =>
            obtain ⟨hS4, kk4, hM4, hs4, hB4⟩ := REL.out
            refine ⟨k + 1, by omega, by go_num, fun p hp => ?_, ?_, kk4, hM4, by omega, hB4⟩
            · by_cases e : p = k
              · subst e; exact (HP2.out (by simp)).2
              · exact HPRE.out p (by omega)
            · rw [List.range_succ, List.map_append, List.map_singleton, (HP2.out (by simp)).1, ← ints_snoc]
              exact hS4
          case measure => simp [intOf]; omega
      · obtain rfl : k = n := by omega
        have REL := Lib.hid (And.intro hS hB)
        clear hS hB hM kk
        go_wp2_with fail
        go_ret2
        have h2 := HG2.out HPRE.out
        rw [h2]
        exact ⟨_, rfl, by simpa using own_base REL.out.1 (by omega), REL.out.2⟩
  · rw [show Ln.leF N bs = ([], Ln.soundF N bs []) from Ln.leF_bad hs]
    have hne : (Ln.soundF N bs [] != 0) = true := by simp [hs]
    have hcall := rpointed_any N A c bs none 0 [] _ hR1 hc (hP0 _) (by simp)
    obtain ⟨s, hss⟩ : ∃ s, Ln.soundF N bs [] = s := ⟨_, rfl⟩
    rw [hss] at hne hcall ⊢
    have HC := Lib.hid hcall
    clear hs hss hcall
    go_enter Try.func35, Try.ntmps35
    go_wp2_with fail
    refine HC.out.mono ?_
    rintro e w1 ⟨rfl, hb1⟩
    go_wp2_with fail
    go_ret2
    exact ⟨_, rfl, own_none _ _ _, hB0.trans (hb1.mono hB0.size)⟩

end Go.Proofs.Ytppfpdhgckghdaa
