/-
  The reference's Close.
-/
import Derived.Test.YtppfpdhgckghdaaCloP
import Derived.Test.YtppfpdhgckghdaaMatx
import Derived.Test.YtppfpdhgckghdaaDsM
set_option linter.unusedVariables false
set_option linter.unusedSimpArgs false
namespace Go.Proofs.Ytppfpdhgckghdaa
open Go.RowKit

theorem grown_of_drew {w w' : World} {row : Option Nat} (h : w.drew.grownBy w' row) : w.grownBy w' row := ⟨h.os, h.tape, h.output, h.size, h.block⟩
theorem Bk.drewB {w : World} {g : Nat} {t : TypeId} {cs : Array Value} (h : Bk w g t cs) : Bk w.drew g t cs := h
theorem MM.grown' {w w' : World} {G N base : Nat} {blk : Nat → Nat} {D : Nat → Nat → Int × Bool} {row : Option Nat} (h : MM w G N blk D) (hg : w.grownBy w' row) (hr : ∀ k, row = some k → base ≤ k) (hG : G < base) (hb : ∀ a, a < N → blk a < base) : MM w' G N blk D :=
  ⟨h.out.grown hg (fun e => by have := hr G e.symm; omega), fun a ha => (h.row a ha).grown hg (fun e => by have := hr _ e.symm; have := hb a ha; omega)⟩

set_option maxRecDepth 100000 in
set_option maxHeartbeats 4000000 in
theorem rclose_ok (N : Int) (A : Option Addr) (c : Nat) (bs : List Ln.Bd) (w : World) (hR : Rd w w.heap.size 4 A bs.length (bcells bs)) (hc : Ln.Lv bs) (h14 : N ≤ 14) (hs : Ln.soundF N bs [] = 0) :
    Calls Try.prog 46 #[.agg #[.int .i64 N, .slice A bs.length c]] w fun e w' => ∃ A1 c1, e = .returned (.tuple #[.agg #[.int .i64 (Ln.clsF N bs).1.1, .slice A1 (Ln.clsF N bs).1.2.length c1], .int .i64 (Ln.clsF N bs).2]) ∧
      Rd w' w'.heap.size 4 A1 (Ln.clsF N bs).1.2.length (bcells (Ln.clsF N bs).1.2) ∧ Below w.heap.size w w' := by
  obtain ⟨i0, hi0, hz0, hz1, hz2⟩ := info_parts info69'
  have hB0 : Below w.heap.size w ((w.alloc (.cells #[.int .i64 N, .slice A bs.length c] 24)).alloc (.cells #[.int .i64 0, .slice none 0 0] 24)) := ((Below.refl _ _).alloc (Nat.le_refl _) _).alloc (by simp) _
  have hR1 := (hR.below hB0 (Nat.le_refl _)).more hB0.size
  have k0 := (Bk.new w 24 #[.int .i64 N, .slice A bs.length c]).alloc (.cells #[.int .i64 0, .slice none 0 0] 24)
  have r0 := Bk.new (w.alloc (.cells #[.int .i64 N, .slice A bs.length c] 24)) 24 #[.int .i64 0, .slice none 0 0]
  rw [World.size_alloc] at r0
  obtain ⟨hcp, hco, hck⟩ := Ln.sound_zero hs
  obtain ⟨hok, hNt⟩ := Ln.ok_of_check hck
  have htop := hok.top
  have hNN := (Ln.cons_iff hok).1 hco
  have hcl : Ln.clsF N bs = if Ln.fitA bs N.toNat N.toNat then ((N, Ln.clA bs N.toNat N.toNat), 0) else ((0, []), 2) := by rw [Ln.clsF, if_pos hs]
  rw [hcl]
  obtain ⟨n, hn⟩ : ∃ n, N.toNat = n := ⟨_, rfl⟩
  rw [hn] at hok hNt htop hco ⊢
  subst hNt
  have hn14 : n ≤ 14 := by omega
  obtain ⟨res, hres⟩ : ∃ res : (Int × List Ln.Bd) × Int, (if Ln.fitA bs n n = true then (((n : Int), Ln.clA bs n n), (0 : Int)) else ((0, []), 2)) = res := ⟨_, rfl⟩
  rw [hres]
  have HRES := Lib.hid hres
  clear hres
  have HS := Lib.hid hs
  have hself : ∀ a, a < n → Ln.gt (Ln.distF bs n a) a = 0 := fun a ha => (Ln.dist_ok hok hNN ha).self hNN (by omega)
  have HSELF := Lib.hid hself
  have hP0 : ∀ w : World, Rd w w.heap.size 1 none ([] : List Int).length (ints []) := fun w => Rd.nil _ _ _ _
  clear hs hcp hco hck hcl hself hNN
  go_enter Try.func46, Try.ntmps46
  go_wp2_with fail
  refine (rpointed_any (n : Int) A c bs none 0 [] _ hR1 hc (hP0 _) (by simp)).mono ?_
  rw [HS.out]
  rintro e w1 ⟨rfl, hb1⟩
  have k1 := k0.below hb1 (by simp; omega)
  have r1 := r0.below hb1 (by simp)
  have hB1 := hB0.trans (hb1.mono hB0.size)
  have hR2 := (hR.below hB1 (Nat.le_refl _)).more hB1.size
  have c0 := k1.cell 0
  have c1 := k1.cell 1
  simp only [List.getElem?_toArray, List.getElem?_cons_zero, List.getElem?_cons_succ] at c0 c1
  have kl1 := k1.lt
  have rl1 := r1.lt
  clear k0 r0 hb1 hB0 hR1
  go_wp2_with fail
  refine (matrix_sound HS.out hc h14 A c _ hR2).mono ?_
  rintro e w2 ⟨G, blk, D, rfl, hM, hA, hG, hb2, hD, hsm⟩
  have k2 := k1.below hb2 k1.lt
  have r2 := r1.below hb2 r1.lt
  have hB2 := hB1.trans (hb2.mono hB1.size)
  rw [hn] at hM hA hD hsm ⊢
  have hDb : ∀ a b, a < n → b < n → D a b = Ln.ffar (Ln.gt (Ln.distF bs n a) b) := fun a b ha hb => by
    rw [hD a b ha hb, Ln.dF, hn, Int.toNat_natCast, Int.toNat_natCast]
  have HDB := Lib.hid hDb
  have HSM := Lib.hid hsm
  clear hDb hD hsm hA c0 c1 k1 r1 hB1
  have k3 := k2.alloc (.cells #[.int .i64 (n : Int), .slice none 0 0] 24)
  have r3 := r2.alloc (.cells #[.int .i64 (n : Int), .slice none 0 0] 24)
  have q3 := Bk.new w2 24 #[.int .i64 (n : Int), .slice none 0 0]
  have m3 := hM.alloc (.cells #[.int .i64 (n : Int), .slice none 0 0] 24)
  have hB3 := hB2.alloc hB2.size (.cells #[.int .i64 (n : Int), .slice none 0 0] 24)
  have c0 := k2.cell 0
  simp only [List.getElem?_toArray, List.getElem?_cons_zero, List.getElem?_cons_succ] at c0
  have kl2 := k2.lt
  have rl2 := r2.lt
  have lG := hM.out.lt
  have hblk : ∀ i, i < n → blk i < w2.heap.size := fun i hi => (hM.row i hi).lt
  have hT : (w2.alloc (.cells #[.int .i64 (n : Int), .slice none 0 0] 24)).heap.size = w2.heap.size + 1 := World.size_alloc _ _
  have REL3 := Lib.hid (And.intro k3 (And.intro r3 (And.intro q3 (And.intro m3 (And.intro hB3 hT)))))
  clear k3 r3 q3 m3 hB3 hM hB2 k2 r2 hT
  go_wp2_with fail
  obtain ⟨k3, r3, q3, m3, hB3, hT⟩ := REL3.out
  clear REL3
  obtain ⟨sb, hsb⟩ : ∃ sb, w.heap.size = sb := ⟨_, rfl⟩
  obtain ⟨cb, hcb⟩ : ∃ cb, w2.heap.size = cb := ⟨_, rfl⟩
  obtain ⟨W3, hW3⟩ : ∃ W3, w2.alloc (.cells #[.int .i64 (n : Int), .slice none 0 0] 24) = W3 := ⟨_, rfl⟩
  have HSB := Lib.hid hsb
  simp only [hsb] at k3 r3 hB3 kl2 rl2 ⊢
  rw [hcb] at q3 kl2 rl2 lG hT ⊢
  simp only [hcb] at hblk
  rw [hW3] at k3 r3 q3 m3 hB3 hT ⊢
  have HBLK := Lib.hid hblk
  clear hsb hcb hW3 hblk c0 kl1 rl1 hb2 hG
  go_loopw [7] (fun i wr => ∃ (k : Nat) (V : Value), k ≤ n ∧ i = .int .i64 k ∧ Ln.fitA bs n k = true ∧ Bk wr sb 24 #[.int .i64 (n : Int), .slice A bs.length c] ∧ Bk wr (sb + 1) 24 #[.int .i64 0, .slice none 0 0] ∧
      Bk wr cb 24 #[.int .i64 (n : Int), V] ∧ wr.ownsRow (cb + 1) 63 4 V (Ln.clA bs n k).length (bcells (Ln.clA bs n k)) ∧ MM wr G n blk D ∧ Below sb w wr)
    (fun i _ => n - (intOf i).toNat)
  case atStart => exact ⟨0, _, Nat.zero_le _, rfl, rfl, k3, r3, q3, own_none _ _ _, m3, hB3⟩
  case round =>
    clear k3 r3 q3 m3 hB3 hT
    obtain ⟨k, V, hk, rfl, hfit, kk, rr, qq, hV, hM, hB⟩ := hrel
    have c0 := kk.cell 0
    simp only [List.getElem?_toArray, List.getElem?_cons_zero, List.getElem?_cons_succ] at c0
    have l1 := kk.lt
    by_cases hkl : k < n
    · have hk0 : (0 : Int) ≤ (k : Int) := Int.natCast_nonneg _
      have hk1 : (k : Int) < n := by omega
      have HFIT := Lib.hid hfit
      have REL4 := Lib.hid (And.intro kk (And.intro rr (And.intro qq (And.intro hV (And.intro hM hB)))))
      clear kk rr qq hV hM hB hfit
      go_wp2_with fail
      obtain ⟨k4, r4, q4, hV4, m4, hB4⟩ := REL4.out
      clear REL4 c0 l1
      go_loopw [8] (fun i ws => ∃ (b : Nat) (V : Value), b ≤ n ∧ i = .int .i64 b ∧ Ln.fitR (Ln.distF bs n k) b = true ∧ Bk ws sb 24 #[.int .i64 (n : Int), .slice A bs.length c] ∧ Bk ws (sb + 1) 24 #[.int .i64 0, .slice none 0 0] ∧
          Bk ws cb 24 #[.int .i64 (n : Int), V] ∧ ws.ownsRow (cb + 1) 63 4 V (Ln.clA bs n k ++ Ln.clR (Ln.distF bs n k) k b).length (bcells (Ln.clA bs n k ++ Ln.clR (Ln.distF bs n k) k b)) ∧ MM ws G n blk D ∧ Below sb w ws)
        (fun i _ => n - (intOf i).toNat)
      case atStart => exact ⟨0, V, Nat.zero_le _, rfl, rfl, k4, r4, q4, by simpa [Ln.clR] using hV4, m4, hB4⟩
      case round =>
        clear k4 r4 q4 hV4 m4 hB4
        obtain ⟨b, V, hb, rfl, hfr, kk, rr, qq, hV, hM, hB⟩ := hrel
        have l3 := kk.lt
        have l4 := rr.lt
        have l5 := qq.lt
        have l6 := hM.out.lt
        have c0 := kk.cell 0
        simp only [List.getElem?_toArray, List.getElem?_cons_zero, List.getElem?_cons_succ] at c0
        by_cases hbl : b < n
        · have hb0 : (0 : Int) ≤ (b : Int) := Int.natCast_nonneg _
          have hb1 : (b : Int) < n := by omega
          have o1 := hM.cellO hkl
          obtain ⟨v1, v2⟩ := hM.cells hkl hbl
          have lk := (hM.row k hkl).lt
          have hxs := HDB.out k b hkl hbl
          obtain ⟨⟨x, p⟩, hx⟩ : ∃ z, D k b = z := ⟨_, rfl⟩
          rw [hx] at v1 v2 hxs
          dsimp only at v1 v2
          have HXS := Lib.hid hxs.symm
          have HX := Lib.hid hx
          have HFR := Lib.hid hfr
          have hp1 : p = false → Ln.gt (Ln.distF bs n k) b = Ln.NONE := fun h => by
            rw [Ln.ffar] at hxs
            split at hxs
            · assumption
            · rw [h] at hxs; simp at hxs
          have hp2 : p = true → Ln.gt (Ln.distF bs n k) b = x ∧ x ≠ Ln.NONE := fun h => by
            rw [Ln.ffar] at hxs
            split at hxs
            · rw [h] at hxs; simp at hxs
            · rename_i hne
              simp at hxs
              exact ⟨hxs.1.symm, by rw [hxs.1]; exact hne⟩
          have HP1 := Lib.hid hp1
          have HP2 := Lib.hid hp2
          clear hx hxs hfr hp1 hp2
          by_cases hskip : k = b ∨ p = false
          · have nx : Ln.clR (Ln.distF bs n k) k (b + 1) = Ln.clR (Ln.distF bs n k) k b := by rw [Ln.clR_succ, Ln.clB, if_pos (hskip.imp id HP1.out), List.append_nil]
            have fx : Ln.fitR (Ln.distF bs n k) (b + 1) = true := by
              rw [Ln.fitR_succ, HFR.out]
              rcases hskip with e | e
              · rw [← e, HSELF.out k hkl]
                decide
              · rw [HP1.out e]
                decide
            have NX := Lib.hid nx
            have FX := Lib.hid fx
            have REL := Lib.hid (And.intro kk (And.intro rr (And.intro qq (And.intro hV (And.intro hM hB)))))
            clear nx fx kk rr qq hV hM hB
            by_cases hab : k = b
            · have e1 : ((k : Int) == (b : Int)) = true := by simp [hab]
              clear hskip hab
              go_wp2_with fail
              go_roundw
              case rel =>
                obtain ⟨kk, rr, qq, hV, hM, hB⟩ := REL.out
                exact ⟨b + 1, V, by omega, by go_num, FX.out, kk, rr, qq, by rw [NX.out]; exact hV, hM, hB⟩
              case measure => simp [intOf]; omega
            · have e1 : ((k : Int) == (b : Int)) = false := by simp; omega
              have hpf := hskip.resolve_left hab
              clear hskip hab
              subst hpf
              go_wp2_with fail
              go_roundw
              case rel =>
                obtain ⟨kk, rr, qq, hV, hM, hB⟩ := REL.out
                exact ⟨b + 1, V, by omega, by go_num, FX.out, kk, rr, qq, by rw [NX.out]; exact hV, hM, hB⟩
              case measure => simp [intOf]; omega
          · rw [not_or] at hskip
            have e1 : ((k : Int) == (b : Int)) = false := by simp; omega
            have hpt : p = true := by cases p <;> simp_all
            subst hpt
            obtain ⟨hx1, hx2⟩ := HP2.out rfl
            have hkb := hskip.1
            have HX1 := Lib.hid hx1
            clear hskip HP1 HP2 hx1
            rcases hw : Ln.within x 1000000 with _ | _
            · have hno : Ln.fitA bs n n = false := Ln.fitA_no hkl (Ln.fitR_no hbl (by rw [HX1.out, Ln.fitB, hw, decide_eq_false hx2]; rfl))
              have HNO := Lib.hid hno
              have hw2 : (decide ((-1000000 : Int) ≤ x) && decide (x ≤ 1000000)) = false := hw
              have HW := Lib.hid hw2
              have d0 := rr.cell 0
              have d1 := rr.cell 1
              have f0 := rr.frozen 0
              have f1 := rr.frozen 1
              simp only [List.getElem?_toArray, List.getElem?_cons_zero, List.getElem?_cons_succ] at d0 d1
              have K6 := Lib.hid ((rr.set 0 (.int .i64 0)).set 1 (.slice none 0 0))
              have HB6 := Lib.hid ((hB.setCell (p := ⟨sb + 1, 0, none⟩) (by simp) (.int .i64 0)).setCell (p := ⟨sb + 1, 1, none⟩) (by simp) (.slice none 0 0))
              clear hno hw hw2 kk rr qq hV hM hB hkb hx2
              go_wp2_with (go_at_call 90; refine (rwithin_any x (-1000000) 1000000 _).mono ?_; rintro e w2 ⟨rfl, rfl⟩; rw [HW.out])
              have hr := HRES.out
              rw [HNO.out, if_neg (by simp)] at hr
              subst hr
              exact bodyPost_ret (v := .tuple #[.agg #[.int .i64 0, .slice none 0 0], .int .i64 2]) (results_cell_row_tmp rfl _ _ (sb + 1) 24 _ (0, 0) _ _ rfl rfl K6.out Try.underlying24 rfl (by kernel_rfl)) rfl ⟨none, 0, rfl, Rd.nil _ _ _ _, by rw [HSB.out]; exact HB6.out⟩
            · have nx : Ln.clR (Ln.distF bs n k) k (b + 1) = Ln.clR (Ln.distF bs n k) k b ++ [⟨k, b, x, 0, false⟩] := by rw [Ln.clR_succ, Ln.clB, HX1.out, if_neg (by rw [not_or]; exact ⟨hkb, hx2⟩)]
              have fx : Ln.fitR (Ln.distF bs n k) (b + 1) = true := by rw [Ln.fitR_succ, HFR.out, HX1.out, Ln.fitB, hw]; simp
              have hlen : (Ln.clA bs n k ++ Ln.clR (Ln.distF bs n k) k b).length ≤ 300 := by
                have h1 := Ln.clA_length bs n k
                have h2 := Ln.clR_length (Ln.distF bs n k) k b
                have h3 : k * n ≤ 14 * 14 := Nat.mul_le_mul (by omega) hn14
                rw [List.length_append]
                omega
              have nx2 : Ln.clA bs n k ++ Ln.clR (Ln.distF bs n k) k (b + 1) = (Ln.clA bs n k ++ Ln.clR (Ln.distF bs n k) k b) ++ [⟨k, b, x, 0, false⟩] := by rw [nx, List.append_assoc]
              obtain ⟨l, hl⟩ : ∃ l, Ln.clA bs n k ++ Ln.clR (Ln.distF bs n k) k b = l := ⟨_, rfl⟩
              rw [hl] at hV hlen nx2
              obtain ⟨A', c', rfl, hrd⟩ := own_read hV
              have q1 := qq.cell 1
              have fq1 := qq.frozen 1
              simp only [List.getElem?_toArray, List.getElem?_cons_zero, List.getElem?_cons_succ] at q1
              have hw2 : (decide ((-1000000 : Int) ≤ x) && decide (x ≤ 1000000)) = true := hw
              have HW := Lib.hid hw2
              have NX := Lib.hid nx2
              have FX := Lib.hid fx
              clear nx nx2 fx hw hw2 hl hrd hkb hx2
              have hcw : ∀ o, (wr.alloc o).cell? ⟨cb, 1, none⟩ = some (.slice A' l.length c') := fun o => (World.cell?_of_block (Below.heap_alloc _ _ _ (by simp; omega))).trans q1
              go_upto_region 16 with (go_at_call 90; refine (rwithin_any x (-1000000) 1000000 _).mono ?_; rintro e w2 ⟨rfl, rfl⟩; rw [HW.out])
              go_region_law (refine step_append_lies _ (by rfl) _ _ _ (by rfl) (cb + 1) 63 i0 _ 4 32 Try.underlying22 hi0 hz0 hz1 hz2 rfl (by omega) (.slice A' l.length c') l.length (bcells l) (by rfl) ((hV.alloc _).drew) ⟨wr.heap.size, 0, none⟩ 1 1 [.int .i64 k, .int .i64 b, .int .i64 x, .int .i64 0] (by rfl) (by rfl) (World.news_of_block (cs := #[.int .i64 k, .int .i64 b, .int .i64 x, .int .i64 0]) (t := 63) (fr := (0, 0)) (heap_alloc_new wr _)) (by simp [Value.oneCell']) (by omega) (by unfold maxLen; omega) (by omega) (by simp; omega) (wr.heap.size + 1) (by simp) ?_; intro gg cap w4 hown hgrow hat hlt; have qq4 := ((qq.alloc (.cells #[.int .i64 k, .int .i64 b, .int .i64 x, .int .i64 0] 63)).drewB).grown hgrow (off_neN hV (by omega)); have c41 := qq4.cell 1; have f41 := qq4.frozen 1; simp only [List.getElem?_toArray, List.getElem?_cons_zero, List.getElem?_cons_succ] at c41; have l8 := qq4.lt)
              all_goals
                have hg2 := grown_of_alloc (grown_of_drew hgrow)
                have hown2 : w4.ownsRow (cb + 1) 63 4 (.slice (some ⟨gg, 0, none⟩) (l.length + 1) cap) (l ++ [(⟨k, b, x, 0, false⟩ : Ln.Bd)]).length (bcells (l ++ [(⟨k, b, x, 0, false⟩ : Ln.Bd)])) := by
                  rw [List.length_append, bcells_append]
                  exact hown
                have REL := Lib.hid (And.intro qq4 (And.intro hown2 hg2))
                clear hown hown2 hgrow hg2 qq4
                go_wp2_with fail
                go_roundw
                case rel =>
                  obtain ⟨qq4, hown2, hg2⟩ := REL.out
                  refine ⟨b + 1, .slice (some ⟨gg, 0, none⟩) (l.length + 1) cap, by omega, by go_num, FX.out, (kk.grown hg2 (off_neN hV (by omega))).far (by simp; omega) _, (rr.grown hg2 (off_neN hV (by omega))).far (by simp; omega) _, qq4.set 1 _, ?_,
                    (hM.grown' hg2 (fun j e => (hV.lt j e).1) (by omega) (fun i hi => by have := HBLK.out i hi; omega)).far (by simp; omega) (fun i hi => by have := HBLK.out i hi; simp; omega) _, (hB.grown hg2 (by omega) (fun j e => by have := (hV.lt j e).1; omega)).setCell (by simp; omega) _⟩
                  rw [NX.out]
                  exact hown2.kept (grown_setCell w4 ⟨cb, 1, none⟩ (.slice (some ⟨gg, 0, none⟩) (l.length + 1) cap)) (own_offN hown2 (Nat.lt_succ_self cb))
                case measure => simp [intOf]; omega
        · obtain rfl : b = n := by omega
          go_wp2_with fail
          go_roundw
          case rel =>
            refine ⟨k + 1, V, by omega, by go_num, ?_, kk, rr, qq, ?_, hM, hB⟩
            · rw [Ln.fitA_succ, HFIT.out, hfr]; rfl
            · rw [Ln.clA_succ]
              exact hV
          case measure => simp [intOf]; omega
    · obtain rfl : k = n := by omega
      obtain ⟨A', c', rfl, hrd⟩ := own_read hV
      have hr := HRES.out
      rw [hfit, if_pos rfl] at hr
      have HR := Lib.hid hr
      clear hr
      have q0 := qq.cell 0
      have q1 := qq.cell 1
      have d0 := rr.cell 0
      have d1 := rr.cell 1
      have f0 := rr.frozen 0
      have f1 := rr.frozen 1
      simp only [List.getElem?_toArray, List.getElem?_cons_zero, List.getElem?_cons_succ] at q0 q1 d0 d1
      have l4 := rr.lt
      have l5 := qq.lt
      have hlen : (Ln.clA bs k k).length ≤ 300 := by
        have h1 := Ln.clA_length bs k k
        have h3 : k * k ≤ 14 * 14 := Nat.mul_le_mul (by omega) hn14
        omega
      obtain ⟨l, hl⟩ : ∃ l, Ln.clA bs k k = l := ⟨_, rfl⟩
      rw [hl] at hrd q1 hV qq hlen
      have HL := Lib.hid hl
      have e3 : decide ((2000 : Int) < (l.length : Int)) = false := by simp; omega
      have K6 := Lib.hid ((rr.set 0 (.int .i64 (k : Int))).set 1 (.slice A' l.length c'))
      have HB6 := Lib.hid ((hB.setCell (p := ⟨sb + 1, 0, none⟩) (by simp) (.int .i64 (k : Int))).setCell (p := ⟨sb + 1, 1, none⟩) (by simp) (.slice A' l.length c'))
      have hsT : sb + 1 < cb + 1 := by omega
      have HV6 := Lib.hid ((hV.kept (grown_setCell wr ⟨sb + 1, 0, none⟩ (.int .i64 (k : Int))) (own_offN hV hsT)).kept (grown_setCell _ ⟨sb + 1, 1, none⟩ (.slice A' l.length c')) (own_offN hV hsT))
      clear kk rr qq hV hM hB hrd hl hfit
      go_wp2_with fail
      have e := HL.out
      subst e
      have hr := HR.out
      subst hr
      refine bodyPost_ret (v := .tuple #[.agg #[.int .i64 (k : Int), .slice A' (Ln.clA bs k k).length c'], .int .i64 0]) (results_cell_row_tmp rfl _ _ (sb + 1) 24 _ (0, 0) _ _ rfl rfl K6.out Try.underlying24 rfl (by kernel_rfl)) rfl ⟨A', c', rfl, ?_, by rw [HSB.out]; exact HB6.out⟩
      obtain ⟨A2, c2, e, hrd⟩ := own_read HV6.out
      cases e
      exact hrd

set_option maxRecDepth 100000 in
set_option maxHeartbeats 1000000 in
theorem rclose_any (N : Int) (A : Option Addr) (c : Nat) (bs : List Ln.Bd) (w : World) (hR : Rd w w.heap.size 4 A bs.length (bcells bs)) (hc : Ln.Lv bs) (h14 : Ln.check N bs = 0 → N ≤ 14) :
    Calls Try.prog 46 #[.agg #[.int .i64 N, .slice A bs.length c]] w fun e w' => ∃ A1 c1, e = .returned (.tuple #[.agg #[.int .i64 (Ln.clsF N bs).1.1, .slice A1 (Ln.clsF N bs).1.2.length c1], .int .i64 (Ln.clsF N bs).2]) ∧
      Rd w' w'.heap.size 4 A1 (Ln.clsF N bs).1.2.length (bcells (Ln.clsF N bs).1.2) ∧ Below w.heap.size w w' := by
  by_cases hs : Ln.soundF N bs [] = 0
  · exact rclose_ok N A c bs w hR hc (h14 (Ln.sound_zero hs).2.2) hs
  · rw [show Ln.clsF N bs = ((0, []), Ln.soundF N bs []) from by rw [Ln.clsF, if_neg hs]]
    have hB0 : Below w.heap.size w ((w.alloc (.cells #[.int .i64 N, .slice A bs.length c] 24)).alloc (.cells #[.int .i64 0, .slice none 0 0] 24)) := ((Below.refl _ _).alloc (Nat.le_refl _) _).alloc (by simp) _
    have hR1 := (hR.below hB0 (Nat.le_refl _)).more hB0.size
    have r0 := Bk.new (w.alloc (.cells #[.int .i64 N, .slice A bs.length c] 24)) 24 #[.int .i64 0, .slice none 0 0]
    rw [World.size_alloc] at r0
    have hne : (Ln.soundF N bs [] != 0) = true := by simp [hs]
    have hcall := rpointed_any N A c bs none 0 [] _ hR1 hc (Rd.nil _ _ _ _) (by simp)
    obtain ⟨s, hss⟩ : ∃ s, Ln.soundF N bs [] = s := ⟨_, rfl⟩
    rw [hss] at hne hcall ⊢
    have HC := Lib.hid hcall
    clear hs hss hcall
    go_enter Try.func46, Try.ntmps46
    go_wp2_with fail
    refine HC.out.mono ?_
    rintro e w1 ⟨rfl, hb1⟩
    have rr := r0.below hb1 (by simp)
    have hB := hB0.trans (hb1.mono hB0.size)
    have d0 := rr.cell 0
    have d1 := rr.cell 1
    have f0 := rr.frozen 0
    have f1 := rr.frozen 1
    have l1 := rr.lt
    simp only [List.getElem?_toArray, List.getElem?_cons_zero, List.getElem?_cons_succ] at d0 d1
    have K6 := Lib.hid ((rr.set 0 (.int .i64 0)).set 1 (.slice none 0 0))
    have HB6 := Lib.hid ((hB.setCell (p := ⟨w.heap.size + 1, 0, none⟩) (by simp) (.int .i64 0)).setCell (p := ⟨w.heap.size + 1, 1, none⟩) (by simp) (.slice none 0 0))
    clear rr r0 hB
    go_wp2_with fail
    exact bodyPost_ret (v := .tuple #[.agg #[.int .i64 0, .slice none 0 0], .int .i64 s]) (results_cell_row_tmp rfl _ _ (w.heap.size + 1) 24 _ (0, 0) _ _ rfl rfl K6.out Try.underlying24 rfl (by kernel_rfl)) rfl ⟨none, 0, rfl, Rd.nil _ _ _ _, HB6.out⟩

end Go.Proofs.Ytppfpdhgckghdaa
