/-
  Join.
-/
import Derived.Test.YteiaofgkmgllcaaApp
set_option linter.unusedVariables false
set_option linter.unusedSimpArgs false
namespace Go.Proofs.Yteiaofgkmgllcaa
open Go.RowKit Go.Shelf

set_option maxRecDepth 100000 in
set_option maxHeartbeats 2000000 in
theorem join_new (N : Int) (A : Option Addr) (c : Nat) (bs : List Ln.Bd) (M : Int) (A2 : Option Addr) (c2 : Nat) (cs : List Ln.Bd) (w : World)
    (hR : Rd w w.heap.size 4 A bs.length (bcells bs)) (hc : bs.length ≤ 100000) (hR2 : Rd w w.heap.size 4 A2 cs.length (bcells cs)) (hc2 : cs.length ≤ 100000) :
    Calls Try.prog 20 #[.agg #[.int .i64 N, .slice A bs.length c], .agg #[.int .i64 M, .slice A2 cs.length c2]] w fun e w' => ∃ A' c', e = .returned (.tuple #[.agg #[.int .i64 (Ln.joinF N bs M cs).1.1, .slice A' (Ln.joinF N bs M cs).1.2.length c'], .int .i64 (Ln.joinF N bs M cs).2]) ∧
      Rd w' w'.heap.size 4 A' (Ln.joinF N bs M cs).1.2.length (bcells (Ln.joinF N bs M cs).1.2) ∧ (∀ a, A' = some a → w.heap.size ≤ a.block) ∧ Below w.heap.size w w' := by
  have k1 := ((Bk.new w 24 #[.int .i64 N, .slice A bs.length c]).alloc (.cells #[.int .i64 M, .slice A2 cs.length c2] 24)).alloc (.cells #[.int .i64 0, .slice none 0 0] 24)
  have k2 := (Bk.new (w.alloc (.cells #[.int .i64 N, .slice A bs.length c] 24)) 24 #[.int .i64 M, .slice A2 cs.length c2]).alloc (.cells #[.int .i64 0, .slice none 0 0] 24)
  have k3 := Bk.new ((w.alloc (.cells #[.int .i64 N, .slice A bs.length c] 24)).alloc (.cells #[.int .i64 M, .slice A2 cs.length c2] 24)) 24 #[.int .i64 0, .slice none 0 0]
  have hB0 : Below w.heap.size w (((w.alloc (.cells #[.int .i64 N, .slice A bs.length c] 24)).alloc (.cells #[.int .i64 M, .slice A2 cs.length c2] 24)).alloc (.cells #[.int .i64 0, .slice none 0 0] 24)) := (((Below.refl _ _).alloc (Nat.le_refl _) _).alloc (by simp) _).alloc (by simp; omega) _
  simp only [World.size_alloc] at k2 k3
  have hR1 := (hR.below hB0 (Nat.le_refl _)).more hB0.size
  have hQ1 := (hR2.below hB0 (Nat.le_refl _)).more hB0.size
  by_cases h1 : Ln.check N bs = 0
  case neg =>
    obtain ⟨ck, hck⟩ : ∃ ck, Ln.check N bs = ck := ⟨_, rfl⟩
    rw [show Ln.joinF N bs M cs = ((0, []), ck) from by rw [Ln.joinF, if_neg h1, hck]]
    rw [hck] at h1
    have H1 := Lib.hid h1
    go_enter Try.func20, Try.ntmps20
    go_wp2_with fail
    refine (check_any N A c bs _ hR1 (by omega)).mono ?_
    rw [hck]
    clear hck
    rintro e w1 ⟨rfl, hb1⟩
    have kz := k3.below hb1 (by simp)
    have c0 := kz.cell 0
    have c1 := kz.cell 1
    have f0 := kz.frozen 0
    have f1 := kz.frozen 1
    simp only [List.getElem?_toArray, List.getElem?_cons_zero, List.getElem?_cons_succ] at c0 c1
    have k5 := (kz.set 0 (.int .i64 0)).set 1 (.slice none 0 0)
    have hB5 := ((hB0.trans (hb1.mono hB0.size)).setCell (p := ⟨w.heap.size + 1 + 1, 0, none⟩) (by simp; omega) (.int .i64 0)).setCell (p := ⟨w.heap.size + 1 + 1, 1, none⟩) (by simp; omega) (.slice none 0 0)
    have K5 := Lib.hid k5
    have HB5 := Lib.hid hB5
    clear k5 hB5 H1
    go_wp2_with fail
    exact bodyPost_ret (v := .tuple #[.agg #[.int .i64 0, .slice none 0 0], .int .i64 ck]) (results_cell_row_tmp rfl _ _ (w.heap.size + 1 + 1) 24 _ (0, 0) _ _ rfl rfl K5.out Try.underlying24 rfl (by kernel_rfl)) rfl ⟨none, 0, rfl, Rd.nil _ _ _ _, (fun a e => by cases e), HB5.out⟩
  case pos =>
    have H1 := Lib.hid h1
    by_cases h2 : Ln.check M cs = 0
    case neg =>
      obtain ⟨ck, hck⟩ : ∃ ck, Ln.check M cs = ck := ⟨_, rfl⟩
      rw [show Ln.joinF N bs M cs = ((0, []), ck) from by rw [Ln.joinF, if_pos h1, if_neg h2, hck]]
      rw [hck] at h2
      have H2 := Lib.hid h2
      go_enter Try.func20, Try.ntmps20
      go_wp2_with fail
      refine (check_any N A c bs _ hR1 (by omega)).mono ?_
      rw [h1]
      clear h1
      rintro e w1 ⟨rfl, hb1⟩
      have q2 := k2.below hb1 (by simp)
      have hQ2 := (hQ1.below hb1 (Nat.le_refl _)).more hb1.size
      have m0 := q2.cell 0
      have m1 := q2.cell 1
      simp only [List.getElem?_toArray, List.getElem?_cons_zero, List.getElem?_cons_succ] at m0 m1
      go_wp2_with fail
      refine (check_any M A2 c2 cs _ hQ2 (by omega)).mono ?_
      rw [hck]
      clear hck m0 m1
      rintro e w2 ⟨rfl, hb2⟩
      have hB1 := hB0.trans (hb1.mono hB0.size)
      have kz := (k3.below hb1 (by simp)).below hb2 (Nat.lt_of_lt_of_le (by simp) hb1.size)
      have c0 := kz.cell 0
      have c1 := kz.cell 1
      have f0 := kz.frozen 0
      have f1 := kz.frozen 1
      simp only [List.getElem?_toArray, List.getElem?_cons_zero, List.getElem?_cons_succ] at c0 c1
      have k5 := (kz.set 0 (.int .i64 0)).set 1 (.slice none 0 0)
      have hB5 := ((hB1.trans (hb2.mono hB1.size)).setCell (p := ⟨w.heap.size + 1 + 1, 0, none⟩) (by simp; omega) (.int .i64 0)).setCell (p := ⟨w.heap.size + 1 + 1, 1, none⟩) (by simp; omega) (.slice none 0 0)
      have K5 := Lib.hid k5
      have HB5 := Lib.hid hB5
      clear k5 hB5 H1 H2
      go_wp2_with fail
      exact bodyPost_ret (v := .tuple #[.agg #[.int .i64 0, .slice none 0 0], .int .i64 ck]) (results_cell_row_tmp rfl _ _ (w.heap.size + 1 + 1) 24 _ (0, 0) _ _ rfl rfl K5.out Try.underlying24 rfl (by kernel_rfl)) rfl ⟨none, 0, rfl, Rd.nil _ _ _ _, (fun a e => by cases e), HB5.out⟩
    case pos =>
      have H2 := Lib.hid h2
      by_cases h3 : N = M
      case neg =>
        rw [show Ln.joinF N bs M cs = ((0, []), 1) from by rw [Ln.joinF, if_pos h1, if_pos h2, if_neg h3]]
        have H3 := Lib.hid h3
        go_enter Try.func20, Try.ntmps20
        go_wp2_with fail
        refine (check_any N A c bs _ hR1 (by omega)).mono ?_
        rw [h1]
        clear h1
        rintro e w1 ⟨rfl, hb1⟩
        have q2 := k2.below hb1 (by simp)
        have hQ2 := (hQ1.below hb1 (Nat.le_refl _)).more hb1.size
        have m0 := q2.cell 0
        have m1 := q2.cell 1
        simp only [List.getElem?_toArray, List.getElem?_cons_zero, List.getElem?_cons_succ] at m0 m1
        go_wp2_with fail
        refine (check_any M A2 c2 cs _ hQ2 (by omega)).mono ?_
        rw [h2]
        clear h2 m0 m1
        rintro e w2 ⟨rfl, hb2⟩
        have hB1 := hB0.trans (hb1.mono hB0.size)
        have q1 := (k1.below hb1 (by simp; omega)).below hb2 (Nat.lt_of_lt_of_le (by simp; omega) hb1.size)
        have q2 := q2.below hb2 q2.lt
        have kz := (k3.below hb1 (by simp)).below hb2 (Nat.lt_of_lt_of_le (by simp) hb1.size)
        have n0 := q1.cell 0
        have m0 := q2.cell 0
        have c0 := kz.cell 0
        have c1 := kz.cell 1
        have f0 := kz.frozen 0
        have f1 := kz.frozen 1
        simp only [List.getElem?_toArray, List.getElem?_cons_zero, List.getElem?_cons_succ] at c0 c1 m0 n0
        have k5 := (kz.set 0 (.int .i64 0)).set 1 (.slice none 0 0)
        have hB5 := ((hB1.trans (hb2.mono hB1.size)).setCell (p := ⟨w.heap.size + 1 + 1, 0, none⟩) (by simp; omega) (.int .i64 0)).setCell (p := ⟨w.heap.size + 1 + 1, 1, none⟩) (by simp; omega) (.slice none 0 0)
        have K5 := Lib.hid k5
        have HB5 := Lib.hid hB5
        clear k5 hB5 H1 H2 H3
        go_wp2_with fail
        exact bodyPost_ret (v := .tuple #[.agg #[.int .i64 0, .slice none 0 0], .int .i64 1]) (results_cell_row_tmp rfl _ _ (w.heap.size + 1 + 1) 24 _ (0, 0) _ _ rfl rfl K5.out Try.underlying24 rfl (by kernel_rfl)) rfl ⟨none, 0, rfl, Rd.nil _ _ _ _, (fun a e => by cases e), HB5.out⟩
      case pos =>
        subst h3
        have hck := Ln.ok_of_check h1
        by_cases h4 : bs.length + cs.length ≤ 2000
        case neg =>
          rw [show Ln.joinF N bs N cs = ((0, []), 2) from by rw [Ln.joinF, if_pos h1, if_pos h2, if_pos rfl, if_neg h4]]
          have hbn : (0 : Int) ≤ (bs.length : Int) := Int.natCast_nonneg _
          have hcn : (0 : Int) ≤ (cs.length : Int) := Int.natCast_nonneg _
          have hbl : (bs.length : Int) ≤ 100000 := by omega
          have hcl : (cs.length : Int) ≤ 100000 := by omega
          go_enter Try.func20, Try.ntmps20
          go_wp2_with fail
          refine (check_any N A c bs _ hR1 (by omega)).mono ?_
          rw [h1]
          clear h1
          rintro e w1 ⟨rfl, hb1⟩
          have q2 := k2.below hb1 (by simp)
          have hQ2 := (hQ1.below hb1 (Nat.le_refl _)).more hb1.size
          have m0 := q2.cell 0
          have m1 := q2.cell 1
          simp only [List.getElem?_toArray, List.getElem?_cons_zero, List.getElem?_cons_succ] at m0 m1
          go_wp2_with fail
          refine (check_any N A2 c2 cs _ hQ2 (by omega)).mono ?_
          rw [h2]
          clear h2 m0 m1
          rintro e w2 ⟨rfl, hb2⟩
          have hB1 := hB0.trans (hb1.mono hB0.size)
          have hB2 := hB1.trans (hb2.mono hB1.size)
          have q1 := (k1.below hb1 (by simp; omega)).below hb2 (Nat.lt_of_lt_of_le (by simp; omega) hb1.size)
          have q2 := q2.below hb2 q2.lt
          have kz := (k3.below hb1 (by simp)).below hb2 (Nat.lt_of_lt_of_le (by simp) hb1.size)
          have n0 := q1.cell 0
          have n1 := q1.cell 1
          have m0 := q2.cell 0
          have m1 := q2.cell 1
          have c0 := kz.cell 0
          have c1 := kz.cell 1
          have f0 := kz.frozen 0
          have f1 := kz.frozen 1
          simp only [List.getElem?_toArray, List.getElem?_cons_zero, List.getElem?_cons_succ] at c0 c1 m0 n0 m1 n1
          have hg : (2000 : Int) < (bs.length : Int) + cs.length := by omega
          have k5 := (kz.set 0 (.int .i64 0)).set 1 (.slice none 0 0)
          have hB5 := (hB2.setCell (p := ⟨w.heap.size + 1 + 1, 0, none⟩) (by simp; omega) (.int .i64 0)).setCell (p := ⟨w.heap.size + 1 + 1, 1, none⟩) (by simp; omega) (.slice none 0 0)
          have K5 := Lib.hid k5
          have HB5 := Lib.hid hB5
          clear k5 hB5 H1 H2 hck
          go_wp2_with fail
          exact bodyPost_ret (v := .tuple #[.agg #[.int .i64 0, .slice none 0 0], .int .i64 2]) (results_cell_row_tmp rfl _ _ (w.heap.size + 1 + 1) 24 _ (0, 0) _ _ rfl rfl K5.out Try.underlying24 rfl (by kernel_rfl)) rfl ⟨none, 0, rfl, Rd.nil _ _ _ _, (fun a e => by cases e), HB5.out⟩
        case pos =>
          rw [show Ln.joinF N bs N cs = ((N, bs ++ cs), 0) from by rw [Ln.joinF, if_pos h1, if_pos h2, if_pos rfl, if_pos h4]]
          obtain ⟨ds, hds⟩ : ∃ ds, bs ++ cs = ds := ⟨_, rfl⟩
          rw [hds]
          dsimp only
          have hbn : (0 : Int) ≤ (bs.length : Int) := Int.natCast_nonneg _
          have hcn : (0 : Int) ≤ (cs.length : Int) := Int.natCast_nonneg _
          have hbl : (bs.length : Int) ≤ 100000 := by omega
          have hcl : (cs.length : Int) ≤ 100000 := by omega
          go_enter Try.func20, Try.ntmps20
          go_wp2_with fail
          refine (check_any N A c bs _ hR1 (by omega)).mono ?_
          rw [h1]
          clear h1
          rintro e w1 ⟨rfl, hb1⟩
          have q2 := k2.below hb1 (by simp)
          have hQ2 := (hQ1.below hb1 (Nat.le_refl _)).more hb1.size
          have m0 := q2.cell 0
          have m1 := q2.cell 1
          simp only [List.getElem?_toArray, List.getElem?_cons_zero, List.getElem?_cons_succ] at m0 m1
          go_wp2_with fail
          refine (check_any N A2 c2 cs _ hQ2 (by omega)).mono ?_
          rw [h2]
          clear h2 m0 m1
          rintro e w2 ⟨rfl, hb2⟩
          have hB1 := hB0.trans (hb1.mono hB0.size)
          have hB2 := hB1.trans (hb2.mono hB1.size)
          have q1 := (k1.below hb1 (by simp; omega)).below hb2 (Nat.lt_of_lt_of_le (by simp; omega) hb1.size)
          have q2 := q2.below hb2 q2.lt
          have kz := (k3.below hb1 (by simp)).below hb2 (Nat.lt_of_lt_of_le (by simp) hb1.size)
          have n0 := q1.cell 0
          have n1 := q1.cell 1
          have m0 := q2.cell 0
          have m1 := q2.cell 1
          have c0 := kz.cell 0
          have c1 := kz.cell 1
          have f0 := kz.frozen 0
          have f1 := kz.frozen 1
          simp only [List.getElem?_toArray, List.getElem?_cons_zero, List.getElem?_cons_succ] at c0 c1 m0 n0 m1 n1
          have hg : (bs.length : Int) + cs.length ≤ 2000 := by omega
          have hl4 : bs.length + cs.length ≤ 1000000 := by omega
          have hR3 := ((hR1.below hb1 (Nat.le_refl _)).more hb1.size).below hb2 (Nat.le_refl _)
          have hR3 := hR3.more hb2.size
          have hQ3 := (hQ2.below hb2 (Nat.le_refl _)).more hb2.size
          have hSB : ∀ W, Below w2.heap.size w2 W → (W.cell? ⟨w.heap.size, 0, none⟩ = some (.int .i64 N) ∧ W.cell? ⟨w.heap.size, 1, none⟩ = some (.slice A bs.length c)) ∧ W.cell? ⟨w.heap.size + 1, 1, none⟩ = some (.slice A2 cs.length c2) := fun W hb =>
            ⟨⟨(hb.cell (p := ⟨w.heap.size, 0, none⟩) q1.lt).trans n0, (hb.cell (p := ⟨w.heap.size, 1, none⟩) q1.lt).trans n1⟩, (hb.cell (p := ⟨w.heap.size + 1, 1, none⟩) q2.lt).trans m1⟩
          have hcc : ∀ b W, Bk W b 22 #[.slice A bs.length c, .slice A2 cs.length c2] → Below w2.heap.size w2 W →
              Calls Try.prog 51 #[.slice (some ⟨b, 0, none⟩) 2 2] W fun e w' => ∃ A' c', e = .returned (.slice A' ds.length c') ∧ Rd w' w'.heap.size 4 A' ds.length (bcells ds) ∧ (∀ a, A' = some a → W.heap.size ≤ a.block) ∧ Below W.heap.size W w' := fun b W hb hB => by
            have h := concat_any bs cs A A2 c c2 b W hb ((hR3.below hB (Nat.le_refl _)).more hB.size) ((hQ3.below hB (Nat.le_refl _)).more hB.size) hl4
            rw [hds] at h
            exact h
          have KZ := Lib.hid kz
          have HSB := Lib.hid hSB
          have HCC := Lib.hid hcc
          have hzl := kz.lt
          clear H1 H2 hck hcc hSB hR hR2 hR1 hQ1 hQ2 hR3 hQ3 q1 q2 kz k1 k2 k3 hb1 hb2 hB0 hB1 hds
          go_wp2_with fail
          have hbZ : Below w2.heap.size w2 w2.drew := (Below.refl _ _).drew
          go_cut [4, 5] (fun s4 s5 wx => s4 = .pointer (some ⟨w.heap.size + 1 + 1, 0, none⟩) ∧ s5 = .int .i64 0 ∧ ∃ A' c', Bk wx (w.heap.size + 1 + 1) 24 #[.int .i64 N, .slice A' ds.length c'] ∧ Rd wx wx.heap.size 4 A' ds.length (bcells ds) ∧ (∀ a, A' = some a → w.heap.size ≤ a.block) ∧ Below w.heap.size w wx)
          case first =>
            go_region_held3 (fun w' => (w'.cell? ⟨w.heap.size, 0, none⟩ = some (.int .i64 N) ∧ w'.cell? ⟨w.heap.size, 1, none⟩ = some (.slice A bs.length c)) ∧ w'.cell? ⟨w.heap.size + 1, 1, none⟩ = some (.slice A2 cs.length c2))
              (first
                | (with_reducible exact keep3 (by omega) (by omega) e0 e1 e2)
                | go_keep
                | ((try dsimp only); first | (with_reducible exact HSB.out _ hbC) | (with_reducible exact HSB.out _ ((Below.refl _ w2).alloc (Nat.le_refl _) _).drew)))
              (first
                | (go_at_call 51; refine (HCC.out w2.heap.size (w2.alloc (.cells #[.slice A bs.length c, .slice A2 cs.length c2] 22)).drew (Bk.new w2 _ _) (((Below.refl _ w2).alloc (Nat.le_refl _) _).drew)).mono ?_; rintro e w3 ⟨A', c', rfl, hrd3, hnw3, hb3⟩; have hbC : Below w2.heap.size w2 w3 := ((((Below.refl _ w2).alloc (Nat.le_refl _) _).drew).trans (hb3.mono (by simp))); have kz3 := KZ.out.below hbC hzl; have c0 := kz3.cell 0; have c1 := kz3.cell 1; have f0 := kz3.frozen 0; have f1 := kz3.frozen 1; simp only [List.getElem?_toArray, List.getElem?_cons_zero, List.getElem?_cons_succ] at c0 c1; obtain ⟨⟨e0, e1⟩, e2⟩ := HSB.out _ hbC))
            all_goals
              have k9 := (kz3.set 0 (.int .i64 N)).set 1 (.slice A' ds.length c')
              have hB9 := ((hB2.trans (hbC.mono hB2.size)).setCell (p := ⟨w.heap.size + 1 + 1, 0, none⟩) (by simp; omega) (.int .i64 N)).setCell (p := ⟨w.heap.size + 1 + 1, 1, none⟩) (by simp; omega) (.slice A' ds.length c')
              have hR9 : Rd ((w3.setCell ⟨w.heap.size + 1 + 1, 0, none⟩ (.int .i64 N)).setCell ⟨w.heap.size + 1 + 1, 1, none⟩ (.slice A' ds.length c')) w3.heap.size 4 A' ds.length (bcells ds) := (hrd3.off (by intro a ha; have := hnw3 a ha; simp at this; simp; omega)).off (by intro a ha; have := hnw3 a ha; simp at this; simp; omega)
              have K9 := Lib.hid k9
              have HB9 := Lib.hid hB9
              have HR9 := Lib.hid hR9
              clear k9 hB9 hR9 c0 c1 f0 f1 kz3
              go_wp2_with fail
              go_meet
              exact ⟨rfl, rfl, A', c', K9.out, HR9.out.more (by first | exact Nat.le_refl _ | simp), (fun a e => by have h1 := hnw3 a e; have h2 := hB2.size; simp at h1; omega), HB9.out⟩
          case rest =>
            obtain ⟨rfl, rfl, A', c', k9, hR9, hN9, hB9⟩ := hcut
            have K9 := Lib.hid k9
            clear k9
            go_wp2_with fail
            exact bodyPost_ret (v := .tuple #[.agg #[.int .i64 N, .slice A' ds.length c'], .int .i64 0]) (results_cell_row_tmp rfl _ _ (w.heap.size + 1 + 1) 24 _ (0, 0) _ _ rfl rfl K9.out Try.underlying24 rfl (by kernel_rfl)) rfl ⟨A', c', rfl, hR9, hN9, hB9⟩
theorem join_any (N : Int) (A : Option Addr) (c : Nat) (bs : List Ln.Bd) (M : Int) (A2 : Option Addr) (c2 : Nat) (cs : List Ln.Bd) (w : World)
    (hR : Rd w w.heap.size 4 A bs.length (bcells bs)) (hc : bs.length ≤ 100000) (hR2 : Rd w w.heap.size 4 A2 cs.length (bcells cs)) (hc2 : cs.length ≤ 100000) :
    Calls Try.prog 20 #[.agg #[.int .i64 N, .slice A bs.length c], .agg #[.int .i64 M, .slice A2 cs.length c2]] w fun e w' => ∃ A' c', e = .returned (.tuple #[.agg #[.int .i64 (Ln.joinF N bs M cs).1.1, .slice A' (Ln.joinF N bs M cs).1.2.length c'], .int .i64 (Ln.joinF N bs M cs).2]) ∧
      Rd w' w'.heap.size 4 A' (Ln.joinF N bs M cs).1.2.length (bcells (Ln.joinF N bs M cs).1.2) ∧ Below w.heap.size w w' :=
  (join_new N A c bs M A2 c2 cs w hR hc hR2 hc2).mono fun _ _ ⟨A', c', e, h, _, hb⟩ => ⟨A', c', e, h, hb⟩

end Go.Proofs.Yteiaofgkmgllcaa
