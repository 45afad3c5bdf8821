/-
  The reference's Distance, Distances.
-/
import Derived.Test.YtppfpdhgckghdaaMatx
import Derived.Test.YtppfpdhgckghdaaDsM
set_option linter.unusedVariables false
set_option linter.unusedSimpArgs false
namespace Go.Proofs.Ytppfpdhgckghdaa
open Go.RowKit

theorem MM.grown {w w' : World} {G N base : Nat} {blk : Nat → Nat} {D : Nat → Nat → Int × Bool} {row : Option Nat} (h : MM w G N blk D) (hg : w.grownBy w' row) (hr : ∀ k, row = some k → base ≤ k) (hG : G < base) (hb : ∀ a, a < N → blk a < base) : MM w' G N blk D :=
  ⟨h.out.grown hg (fun e => by have := hr G e.symm; omega), fun a ha => (h.row a ha).grown hg (fun e => by have := hr _ e.symm; have := hb a ha; omega)⟩

set_option maxRecDepth 100000 in
set_option maxHeartbeats 1000000 in
theorem rdistance_any (N : Int) (A : Option Addr) (c : Nat) (bs : List Ln.Bd) (a b : Int) (w : World) (hR : Rd w w.heap.size 4 A bs.length (bcells bs)) (hc : Ln.Lv bs) (h14 : Ln.check N bs = 0 → N ≤ 14) :
    Calls Try.prog 24 #[.agg #[.int .i64 N, .slice A bs.length c], .int .i64 a, .int .i64 b] w fun e w' => e = .returned (.tuple #[.int .i64 (Ln.diF N bs a b).1, .bool (Ln.diF N bs a b).2.1, .int .i64 (Ln.diF N bs a b).2.2]) ∧ Below w.heap.size w w' := by
  have hB0 : Below w.heap.size w ((w.alloc (.cells #[.int .i64 N, .slice A bs.length c] 24)).alloc (.cells #[.int .i64 a, .int .i64 b] 3)) := ((Below.refl _ _).alloc (Nat.le_refl _) _).alloc (by simp) _
  have hR1 := (hR.below hB0 (Nat.le_refl _)).more hB0.size
  have hP1 := two_rd w (.cells #[.int .i64 N, .slice A bs.length c] 24) a b
  have k0 := (Bk.new w 24 #[.int .i64 N, .slice A bs.length c]).alloc (.cells #[.int .i64 a, .int .i64 b] 3)
  by_cases hs : Ln.soundF N bs [a, b] = 0
  · rw [Ln.diF_far hs]
    obtain ⟨⟨x, p⟩, hxp⟩ : ∃ z, Ln.ffar (Ln.dF N bs a b) = z := ⟨_, rfl⟩
    have hoff : p = false → x = 0 := fun h => by
      have := Ln.ffar_off (x := Ln.dF N bs a b) (by rw [hxp]; exact h)
      rw [hxp] at this
      exact this
    rw [hxp]
    dsimp only
    have HXP := Lib.hid hxp
    clear hxp
    have hpt : ∀ p, p ∈ [a, b] → 0 ≤ p ∧ p < N := fun p hp => Ln.pts_of (Ln.sound_zero hs).1 hp
    obtain ⟨ha0, ha1⟩ := hpt a (by simp)
    obtain ⟨hb0, hb1⟩ := hpt b (by simp)
    have h14' := h14 (Ln.sound_zero hs).2.2
    have HS := Lib.hid hs
    clear hs hpt
    go_enter Try.func24, Try.ntmps24
    go_wp2_with fail
    refine (rpointed_any N A c bs (some ⟨w.heap.size + 1, 0, none⟩) 2 [a, b] _ hR1 hc hP1 (by simp)).mono ?_
    rw [HS.out]
    rintro e w1 ⟨rfl, hb1'⟩
    have k1 := k0.below hb1' (by simp; omega)
    have c0 := k1.cell 0
    have c1 := k1.cell 1
    simp only [List.getElem?_toArray, List.getElem?_cons_zero, List.getElem?_cons_succ] at c0 c1
    have hB1 := hB0.trans (hb1'.mono hB0.size)
    have hR2 := (hR.below hB1 (Nat.le_refl _)).more hB1.size
    go_wp2_with fail
    refine (matrix_sound HS.out hc h14' A c _ hR2).mono ?_
    rintro e w2 ⟨G, blk, D, rfl, hM, hA, hG, hb2, hD, hsm⟩
    have hB2 := hB1.trans (hb2.mono hB1.size)
    obtain ⟨a', rfl⟩ : ∃ a' : Nat, a = a' := ⟨a.toNat, by omega⟩
    obtain ⟨b', rfl⟩ : ∃ b' : Nat, b = b' := ⟨b.toNat, by omega⟩
    have ha' : a' < N.toNat := by omega
    have hb' : b' < N.toNat := by omega
    have haN : (a' : Int) < (N.toNat : Int) := by omega
    have hbN : (b' : Int) < (N.toNat : Int) := by omega
    have o1 := hM.cellO ha'
    obtain ⟨v1, v2⟩ := hM.cells ha' hb'
    have lG := hM.out.lt
    have la := (hM.row a' ha').lt
    have hx : D a' b' = (x, p) := (hD a' b' ha' hb').trans HXP.out
    rw [hx] at v1 v2
    dsimp only at v1 v2
    have hB3 := fun o => hB2.alloc hB2.size o
    clear hM hA hD hsm hx c0 c1
    rcases p with _ | _
    · obtain rfl := hoff rfl
      go_wp2_with fail
      go_ret3
      exact ⟨rfl, hB3 _⟩
    · go_wp2_with fail
      go_ret3
      exact ⟨rfl, hB3 _⟩
  · have hdi : Ln.diF N bs a b = (0, false, Ln.soundF N bs [a, b]) := by rw [Ln.diF, if_neg hs]
    rw [hdi]
    have hne : (Ln.soundF N bs [a, b] != 0) = true := by simp [hs]
    obtain ⟨s, hss⟩ : ∃ s, Ln.soundF N bs [a, b] = s := ⟨_, rfl⟩
    rw [hss] at hne ⊢
    have HS := Lib.hid hss
    clear hs hdi hss
    go_enter Try.func24, Try.ntmps24
    go_wp2_with fail
    refine (rpointed_any N A c bs (some ⟨w.heap.size + 1, 0, none⟩) 2 [a, b] _ hR1 hc hP1 (by simp)).mono ?_
    rw [HS.out]
    rintro e w1 ⟨rfl, hb1'⟩
    go_wp2_with fail
    go_ret3
    exact ⟨rfl, hB0.trans (hb1'.mono hB0.size)⟩

set_option maxRecDepth 100000 in
set_option maxHeartbeats 2000000 in
theorem rdistances_any (N : Int) (A : Option Addr) (c : Nat) (bs : List Ln.Bd) (a : Int) (w : World) (hR : Rd w w.heap.size 4 A bs.length (bcells bs)) (hc : Ln.Lv bs) (h14 : Ln.check N bs = 0 → N ≤ 14) :
    Calls Try.prog 26 #[.agg #[.int .i64 N, .slice A bs.length c], .int .i64 a] w fun e w' => ∃ A1 c1 A2 c2, e = .returned (.tuple #[.slice A1 (Ln.dsF N bs a).1.length c1, .slice A2 (Ln.dsF N bs a).2.1.length c2, .int .i64 (Ln.dsF N bs a).2.2]) ∧
      Rd w' w'.heap.size 1 A1 (Ln.dsF N bs a).1.length (ints (Ln.dsF N bs a).1) ∧ Rd w' w'.heap.size 1 A2 (Ln.dsF N bs a).2.1.length (flags (Ln.dsF N bs a).2.1) ∧ Below w.heap.size w w' := by
  obtain ⟨i0, hi0, hz0, hz1, hz2⟩ := info_parts info3
  obtain ⟨i1, hi1, hy0, hy1, hy2⟩ := info_parts info4
  have hB0 : Below w.heap.size w ((w.alloc (.cells #[.int .i64 N, .slice A bs.length c] 24)).alloc (.cells #[.int .i64 a] 3)) := ((Below.refl _ _).alloc (Nat.le_refl _) _).alloc (by simp) _
  have hR1 := (hR.below hB0 (Nat.le_refl _)).more hB0.size
  have hP1 := one_rd w (.cells #[.int .i64 N, .slice A bs.length c] 24) a
  have k0 := (Bk.new w 24 #[.int .i64 N, .slice A bs.length c]).alloc (.cells #[.int .i64 a] 3)
  by_cases hs : Ln.soundF N bs [a] = 0
  · have hds : Ln.dsF N bs a = (Ln.dsS N bs a N.toNat, Ln.dsI N bs a N.toNat, 0) := by rw [Ln.dsF, if_pos hs]
    rw [hds]
    obtain ⟨ha0, ha1⟩ := Ln.pts_of (Ln.sound_zero hs).1 (p := a) (by simp)
    have h14' := h14 (Ln.sound_zero hs).2.2
    have HS := Lib.hid hs
    clear hs hds
    go_enter Try.func26, Try.ntmps26
    go_wp2_with fail
    refine (rpointed_any N A c bs (some ⟨w.heap.size + 1, 0, none⟩) 1 [a] _ hR1 hc hP1 (by simp)).mono ?_
    rw [HS.out]
    rintro e w1 ⟨rfl, hb1'⟩
    have k1 := k0.below hb1' (by simp; omega)
    have c0 := k1.cell 0
    have c1 := k1.cell 1
    simp only [List.getElem?_toArray, List.getElem?_cons_zero, List.getElem?_cons_succ] at c0 c1
    have hB1 := hB0.trans (hb1'.mono hB0.size)
    have hR2 := (hR.below hB1 (Nat.le_refl _)).more hB1.size
    go_wp2_with fail
    refine (matrix_sound HS.out hc h14' A c _ hR2).mono ?_
    rintro e w2 ⟨G, blk, D, rfl, hM, hA, hG, hb2, hD, hsm⟩
    have k2 := k1.below hb2 k1.lt
    have hB2 := hB1.trans (hb2.mono hB1.size)
    obtain ⟨a', rfl⟩ : ∃ a' : Nat, a = a' := ⟨a.toNat, by omega⟩
    obtain ⟨n, hn⟩ : ∃ n, N.toNat = n := ⟨_, rfl⟩
    rw [hn] at hM hA hD hsm ⊢
    have ha' : a' < n := by omega
    have haN : (a' : Int) < (n : Int) := by omega
    have o1 := hM.cellO ha'
    have lG := hM.out.lt
    have la := (hM.row a' ha').lt
    obtain rfl : N = (n : Int) := by omega
    obtain ⟨T, hT⟩ : ∃ T, w2.heap.size = T := ⟨_, rfl⟩
    have hblk : ∀ i, i < n → blk i < T := fun i hi => by have := (hM.row i hi).lt; omega
    rw [hT] at lG
    have hTw : w.heap.size + 1 ≤ T := by have := hB2.size; have := k2.lt; omega
    have hDb : ∀ b, b < n → D a' b = Ln.ffar (Ln.dF (n : Int) bs a' b) := fun b hb => hD a' b ha' hb
    have HBLK := Lib.hid hblk
    have HDB := Lib.hid hDb
    clear hblk hDb hD hsm hA c0 c1 hn k0 k1
    go_wp2_with fail
    go_loopw [9, 10, 11] (fun S I i wr => ∃ k : Nat, k ≤ n ∧ i = .int .i64 k ∧ wr.ownsRow T 3 1 S k (ints (Ln.dsS n bs a' k)) ∧ wr.ownsRow T 4 1 I k (flags (Ln.dsI n bs a' k)) ∧
        (S.ownBlock = none ∨ S.ownBlock ≠ I.ownBlock) ∧ Bk wr w.heap.size 24 #[.int .i64 (n : Int), .slice A bs.length c] ∧ MM wr G n blk D ∧ T ≤ wr.heap.size ∧ Below w.heap.size w wr)
      (fun _ _ i _ => n - (intOf i).toNat)
    case atStart => exact ⟨0, Nat.zero_le _, rfl, own_none _ _ _, own_none _ _ _, .inl rfl, k2, hM, by omega, hB2⟩
    case round =>
      clear o1 la hM k2 hB2 hT
      obtain ⟨k, hk, rfl, hS, hI, hap, kk, hM, hTs, hB⟩ := hrel
      have c0 := kk.cell 0
      simp only [List.getElem?_toArray, List.getElem?_cons_zero, List.getElem?_cons_succ] at c0
      have hk1 := kk.lt
      by_cases hkl : k < n
      · have hk0 : (0 : Int) ≤ (k : Int) := Int.natCast_nonneg _
        have hkn : (k : Int) < (n : Int) := by omega
        obtain ⟨v1, v2⟩ := hM.cells ha' hkl
        have la := (hM.row a' ha').lt
        have hxs := HDB.out k hkl
        have hoff : (D a' k).2 = false → (D a' k).1 = 0 := fun h => by
          rw [hxs] at h ⊢
          exact Ln.ffar_off h
        have eS : Ln.dsS n bs a' k ++ [(D a' k).1] = Ln.dsS n bs a' (k + 1) := by rw [Ln.dsS_succ, hxs]
        have eI : Ln.dsI n bs a' k ++ [(D a' k).2] = Ln.dsI n bs a' (k + 1) := by rw [Ln.dsI_succ, hxs]
        obtain ⟨⟨x, p⟩, hx⟩ : ∃ z, D a' k = z := ⟨_, rfl⟩
        rw [hx] at v1 v2 hoff eS eI
        dsimp only at v1 v2 hoff eS eI
        have hap2 := apart_comm hap
        have ES := Lib.hid eS
        have EI := Lib.hid eI
        have HX := Lib.hid hx
        clear hxs hx eS eI
        rcases p with _ | _
        · obtain rfl := hoff rfl
          clear hoff
          go_wp2_with (first
            | (at_builtin; refine wpList_app1 rfl _ _ 25 rfl 3 i0 _ 8 Try.underlying25 hi0 hz0 hz1 hz2 rfl T u9 k _ (.int .i64 0) wr rfl hS rfl rfl (by unfold maxLen; omega) (by omega) hTs ?_; intro g1 cap1 w3 hS3 hg3 hat3 hlt3; obtain ⟨hI3, hap3⟩ := two_own hI hap2 hg3 hat3; have hM3 := hM.grown hg3 (fun j e => (hS.lt j e).1) lG HBLK.out; have kk3 := kk.grown hg3 (fun e => by have := (hS.lt _ e.symm).1; omega); have hB3 := hB.grown hg3 (by omega) (fun j e => by have := (hS.lt j e).1; omega); have hs3 : wr.heap.size ≤ w3.heap.size := hg3.size; have la3 := (hM3.row a' ha').lt; obtain ⟨y1, y2⟩ := hM3.cells ha' hkl; rw [HX.out] at y1 y2; dsimp only at y1 y2)
            | (at_builtin; refine wpList_app1 rfl _ _ 40 rfl 4 i1 _ 1 Try.underlying40 hi1 hy0 hy1 hy2 rfl T u10 k _ (.bool false) w3 rfl hI3 rfl rfl (by unfold maxLen; omega) (by omega) (by omega) ?_; intro g2 cap2 w4 hI4 hg4 hat4 hlt4))
          have hS4 := two_own hS3 (apart_comm hap3) hg4 hat4
          have REL := Lib.hid (And.intro hI4 (And.intro hS4 (And.intro (hM3.grown hg4 (fun j e => (hI3.lt j e).1) lG HBLK.out) (And.intro (kk3.grown hg4 (fun e => by have := (hI3.lt _ e.symm).1; omega)) (And.intro hg4.size (hB3.grown hg4 (by omega) (fun j e => by have := (hI3.lt j e).1; omega)))))))
          go_roundw
          case rel =>
            obtain ⟨hI4, hS4, hM4, kk4, hs4, hB4⟩ := REL.out
            refine ⟨k + 1, by omega, by go_num, ?_, ?_, hS4.2, kk4, hM4, by omega, hB4⟩
            · rw [← ES.out, ← ints_snoc]
              exact hS4.1
            · rw [← EI.out, ← flags_snoc]
              exact hI4
          case measure => simp [intOf]; omega
        · clear hoff
          go_wp2_with (first
            | (at_builtin; refine wpList_app1 rfl _ _ 25 rfl 3 i0 _ 8 Try.underlying25 hi0 hz0 hz1 hz2 rfl T u9 k _ (.int .i64 x) wr rfl hS rfl rfl (by unfold maxLen; omega) (by omega) hTs ?_; intro g1 cap1 w3 hS3 hg3 hat3 hlt3; obtain ⟨hI3, hap3⟩ := two_own hI hap2 hg3 hat3; have hM3 := hM.grown hg3 (fun j e => (hS.lt j e).1) lG HBLK.out; have kk3 := kk.grown hg3 (fun e => by have := (hS.lt _ e.symm).1; omega); have hB3 := hB.grown hg3 (by omega) (fun j e => by have := (hS.lt j e).1; omega); have hs3 : wr.heap.size ≤ w3.heap.size := hg3.size; have la3 := (hM3.row a' ha').lt; obtain ⟨y1, y2⟩ := hM3.cells ha' hkl; rw [HX.out] at y1 y2; dsimp only at y1 y2)
            | (at_builtin; refine wpList_app1 rfl _ _ 40 rfl 4 i1 _ 1 Try.underlying40 hi1 hy0 hy1 hy2 rfl T u10 k _ (.bool true) w3 rfl hI3 rfl rfl (by unfold maxLen; omega) (by omega) (by omega) ?_; intro g2 cap2 w4 hI4 hg4 hat4 hlt4))
          have hS4 := two_own hS3 (apart_comm hap3) hg4 hat4
          have REL := Lib.hid (And.intro hI4 (And.intro hS4 (And.intro (hM3.grown hg4 (fun j e => (hI3.lt j e).1) lG HBLK.out) (And.intro (kk3.grown hg4 (fun e => by have := (hI3.lt _ e.symm).1; omega)) (And.intro hg4.size (hB3.grown hg4 (by omega) (fun j e => by have := (hI3.lt j e).1; omega)))))))
          go_roundw
          case rel =>
            obtain ⟨hI4, hS4, hM4, kk4, hs4, hB4⟩ := REL.out
            refine ⟨k + 1, by omega, by go_num, ?_, ?_, hS4.2, kk4, hM4, by omega, hB4⟩
            · rw [← ES.out, ← ints_snoc]
              exact hS4.1
            · rw [← EI.out, ← flags_snoc]
              exact hI4
          case measure => simp [intOf]; omega
      · obtain rfl : k = n := by omega
        have REL := Lib.hid (And.intro hS (And.intro hI hB))
        obtain ⟨A1, c1, rfl, r1⟩ := own_read hS
        obtain ⟨A2, c2, rfl, r2⟩ := own_read hI
        have RR := Lib.hid (And.intro r1 r2)
        clear hS hI hB r1 r2 hM kk hap
        go_wp2_with fail
        go_ret3
        obtain ⟨hS, hI, hB⟩ := REL.out
        obtain ⟨r1, r2⟩ := RR.out
        refine ⟨A1, c1, A2, c2, ?_, ?_, ?_, hB⟩
        · rw [Ln.dsS_length, Ln.dsI_length]; rfl
        · rw [Ln.dsS_length]; exact r1
        · rw [Ln.dsI_length]; exact r2
  · rw [show Ln.dsF N bs a = ([], [], Ln.soundF N bs [a]) from by rw [Ln.dsF, if_neg hs]]
    have hne : (Ln.soundF N bs [a] != 0) = true := by simp [hs]
    obtain ⟨s, hss⟩ : ∃ s, Ln.soundF N bs [a] = s := ⟨_, rfl⟩
    rw [hss] at hne ⊢
    have HS := Lib.hid hss
    clear hs hss
    go_enter Try.func26, Try.ntmps26
    go_wp2_with fail
    refine (rpointed_any N A c bs (some ⟨w.heap.size + 1, 0, none⟩) 1 [a] _ hR1 hc hP1 (by simp)).mono ?_
    rw [HS.out]
    rintro e w1 ⟨rfl, hb1'⟩
    go_wp2_with fail
    go_ret3
    exact ⟨none, 0, none, 0, rfl, Rd.nil _ _ _ _, Rd.nil _ _ _ _, hB0.trans (hb1'.mono hB0.size)⟩

end Go.Proofs.Ytppfpdhgckghdaa
