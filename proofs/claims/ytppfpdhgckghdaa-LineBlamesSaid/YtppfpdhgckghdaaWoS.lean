/-
  The reference's without and Without.
-/
import Derived.Test.YtppfpdhgckghdaaHas
import Derived.Test.YtppfpdhgckghdaaWo
import Derived.Deep.AppendLies
set_option linter.unusedVariables false
set_option linter.unusedSimpArgs false
namespace Go.Proofs.Ytppfpdhgckghdaa
open Go.RowKit Go.Shelf

theorem own_belowG {w w' : World} {base e size : Nat} {v : Value} {n : Nat} {xs : List Value} (h : w.ownsRow base e size v n xs) (hb : Below w.heap.size w w') : w'.ownsRow base e size v n xs :=
  h.kept (grown_below hb) (by rcases h : v.ownBlock with _ | g <;> simp)

set_option maxRecDepth 100000 in
set_option maxHeartbeats 4000000 in
theorem rwo_any (N : Int) (A : Option Addr) (c : Nat) (bs : List Ln.Bd) (A2 : Option Addr) (c2 : Nat) (l : List Int) (w : World)
    (hR : Rd w w.heap.size 4 A bs.length (bcells bs)) (hc : bs.length ≤ 100000) (hL : Rd w w.heap.size 1 A2 l.length (ints l)) (hll : l.length ≤ 1000000) :
    Calls Try.prog 67 #[.agg #[.int .i64 N, .slice A bs.length c], .slice A2 l.length c2] w fun e w' => ∃ A' c', e = .returned (.agg #[.int .i64 N, .slice A' (Ln.woL l bs).length c']) ∧ Rd w' w'.heap.size 4 A' (Ln.woL l bs).length (bcells (Ln.woL l bs)) ∧ (∀ a, A' = some a → w.heap.size ≤ a.block) ∧ Below w.heap.size w w' := by
  obtain ⟨i0, hi0, hz0, hz1, hz2⟩ := info_parts info69'
  go_enter Try.func67, Try.ntmps67
  go_wp2_with fail
  have k1 := ((Bk.new w 24 #[.int .i64 N, .slice A bs.length c]).alloc (.cells #[.int .i64 0, .slice none 0 0] 24)).alloc (.cells #[.int .i64 N, .slice none 0 0] 24)
  have k2 := (Bk.new (w.alloc (.cells #[.int .i64 N, .slice A bs.length c] 24)) 24 #[.int .i64 0, .slice none 0 0]).alloc (.cells #[.int .i64 N, .slice none 0 0] 24)
  have k3 := Bk.new ((w.alloc (.cells #[.int .i64 N, .slice A bs.length c] 24)).alloc (.cells #[.int .i64 0, .slice none 0 0] 24)) 24 #[.int .i64 N, .slice none 0 0]
  simp only [World.size_alloc] at k2 k3
  have hB0 : Below w.heap.size w (((w.alloc (.cells #[.int .i64 N, .slice A bs.length c] 24)).alloc (.cells #[.int .i64 0, .slice none 0 0] 24)).alloc (.cells #[.int .i64 N, .slice none 0 0] 24)) := (((Below.refl _ _).alloc (Nat.le_refl _) _).alloc (by simp) _).alloc (by simp; omega) _
  go_loopw [6] (fun i W => ∃ k : Nat, k ≤ bs.length ∧ i = .int .i64 k ∧ Bk W w.heap.size 24 #[.int .i64 N, .slice A bs.length c] ∧ Bk W (w.heap.size + 1) 24 #[.int .i64 0, .slice none 0 0] ∧
      (∃ V, Bk W (w.heap.size + 1 + 1) 24 #[.int .i64 N, V] ∧ W.ownsRow (w.heap.size + 1 + 1 + 1) 63 4 V (Ln.woL l (bs.take k)).length (bcells (Ln.woL l (bs.take k)))) ∧ Below w.heap.size w W)
    (fun i _ => bs.length - (intOf i).toNat)
  case atStart => exact ⟨0, Nat.zero_le _, rfl, k1, k2, ⟨_, k3, ⟨rfl, .inl ⟨rfl, rfl⟩⟩⟩, hB0⟩
  case round =>
    clear k1 k2 k3 hB0
    obtain ⟨k, hk, rfl, q1, q2, ⟨V, q3, hO⟩, hB⟩ := hrel
    have hBs := hB.size
    have l1 := q1.lt
    have l2 := q2.lt
    have l3 := q3.lt
    have c0 := q1.cell 0
    have c1 := q1.cell 1
    simp only [List.getElem?_toArray, List.getElem?_cons_zero, List.getElem?_cons_succ] at c0 c1
    by_cases hlt : k < bs.length
    · obtain ⟨b, off, rfl, hb, e0, e1, e2, e3⟩ := (hR.below hB (Nat.le_refl _)).bound hlt
      have htk : bs.take (k + 1) = bs.take k ++ [bs[k]] := List.take_succ_eq_append_getElem hlt
      have hsn := Ln.woL_snoc l (bs.take k) bs[k]
      rw [← htk] at hsn
      have hwl := Ln.woL_length l (bs.take k)
      rw [List.length_take] at hwl
      obtain ⟨⟨bf, bt, bm, br, bg⟩, hbd⟩ : ∃ x, bs[k] = x := ⟨_, rfl⟩
      rw [hbd] at e0 e1 e2 e3 hsn
      obtain ⟨K0, hK0⟩ : ∃ K0, Ln.woL l (bs.take k) = K0 := ⟨_, rfl⟩
      rw [hK0] at hO hsn hwl
      have HSN := Lib.hid hsn
      have HAS := Lib.hid fun W hL => has_any A2 c2 l br W hL hll
      have hLw := (hL.below hB (Nat.le_refl _)).more hBs
      clear htk hsn hbd hK0
      rcases hin : decide (br ∈ l) with _ | _
      · rw [hin] at HAS
        go_wp2_with fail
        refine (HAS.out _ hLw).mono ?_
        rintro e w2 ⟨rfl, hb2⟩
        have hnin : ¬ br ∈ l := by simpa using hin
        have hB2 := hB.trans (hb2.mono hBs)
        have p1 := q1.below hb2 l1
        have p2 := q2.below hb2 l2
        have p3 := q3.below hb2 l3
        have hO2 := own_belowG hO hb2
        have e0' := (hb2.cell (p := ⟨b, off + k * 4, none⟩) (by simp; omega)).trans e0
        have e1' := (hb2.cell (p := ⟨b, off + k * 4 + 1, none⟩) (by simp; omega)).trans e1
        have e2' := (hb2.cell (p := ⟨b, off + k * 4 + 2, none⟩) (by simp; omega)).trans e2
        have e3' := (hb2.cell (p := ⟨b, off + k * 4 + 3, none⟩) (by simp; omega)).trans e3
        clear c0 c1 e0 e1 e2 e3 q1 q2 q3 hO
        have c0 := p1.cell 0
        have c1 := p1.cell 1
        have d0 := p3.cell 0
        have d1 := p3.cell 1
        have f1 := p3.frozen 1
        have hs2 := hb2.size
        simp only [List.getElem?_toArray, List.getElem?_cons_zero, List.getElem?_cons_succ] at c0 c1 d0 d1
        go_upto_region 7 with fail
        have hb9 : b < w2.heap.size := by omega
        have hl9 : w.heap.size < w2.heap.size := by omega
        have hl8 : w.heap.size + 1 + 1 < w2.heap.size := by omega
        have kN : Bk (w2.alloc (.cells #[.int .i64 bf, .int .i64 bt, .int .i64 bm, .int .i64 br] 63)).drew w2.heap.size 63 #[.int .i64 bf, .int .i64 bt, .int .i64 bm, .int .i64 br] := Bk.new w2 _ _
        have hN : Rd (w2.alloc (.cells #[.int .i64 bf, .int .i64 bt, .int .i64 bm, .int .i64 br] 63)).drew (w2.heap.size + 1) 4 (some ⟨w2.heap.size, 0, none⟩) 1 (bcells [⟨bf, bt, bm, br, false⟩]) := ⟨rfl, fun _ => ⟨w2.heap.size, 0, rfl, Nat.lt_succ_self _, fun j hj => by rw [Nat.zero_add, kN.cell j]; simp [bcells, bcell]⟩⟩
        have hO7 : (w2.alloc (.cells #[.int .i64 bf, .int .i64 bt, .int .i64 bm, .int .i64 br] 63)).drew.ownsRow (w.heap.size + 1 + 1 + 1) 63 4 V K0.length (bcells K0) := (hO2.alloc _).drew
        have hB7 : Below w.heap.size w (w2.alloc (.cells #[.int .i64 bf, .int .i64 bt, .int .i64 bm, .int .i64 br] 63)).drew := (hB2.alloc hB2.size _).drew
        have p37 := (p3.alloc (.cells #[.int .i64 bf, .int .i64 bt, .int .i64 bm, .int .i64 br] 63))
        go_region_law (first
          | (refine step_append_rd rfl (.tmp 29) (.tmp 35) 22 rfl (w.heap.size + 1 + 1 + 1) 63 i0 _ 4 32 Try.underlying22 hi0 hz0 hz1 hz2 rfl (by omega) V K0.length (bcells K0) (by rfl) hO7 (some ⟨w2.heap.size, 0, none⟩) 1 1 _ (bcells [⟨bf, bt, bm, br, false⟩]) (by rfl) hN (bcells_one _) (by unfold maxLen; omega) (by omega) (by simp; omega) ?_; intro V9 w9 hO9 hg9 hat9; obtain ⟨A9, c9, rfl, hrd9, hnw9⟩ := ownB_rd hO9 hO9.1; have p9 : Bk w9 (w.heap.size + 1 + 1) 24 #[.int .i64 N, V] := Bk.grown (w := (w2.alloc (.cells #[.int .i64 bf, .int .i64 bt, .int .i64 bm, .int .i64 br] 63)).drew) p37 hg9 (off_neN hO7 (by omega)); have h0 := p9.cell 0; have h1 := p9.cell 1; have h2 := p9.frozen 1; simp only [List.getElem?_toArray, List.getElem?_cons_zero, List.getElem?_cons_succ] at h0 h1))
        all_goals
          have hB9 := hB7.grown hg9 hB7.size (fun j e => by have := (hO7.lt j e).1; omega)
          have REL := Lib.hid (And.intro ((p1.alloc (.cells #[.int .i64 bf, .int .i64 bt, .int .i64 bm, .int .i64 br] 63)).grown (w := (w2.alloc (.cells #[.int .i64 bf, .int .i64 bt, .int .i64 bm, .int .i64 br] 63)).drew) hg9 (off_neN hO7 (by omega)))
            (And.intro ((p2.alloc (.cells #[.int .i64 bf, .int .i64 bt, .int .i64 bm, .int .i64 br] 63)).grown (w := (w2.alloc (.cells #[.int .i64 bf, .int .i64 bt, .int .i64 bm, .int .i64 br] 63)).drew) hg9 (off_neN hO7 (by omega)))
            (And.intro p9 (And.intro hO9 hB9))))
          clear p1 p2 p3 p9 hO9 hB9 hO2 hO7 hg9 hat9 h0 h1 h2 hrd9 hnw9 kN hN
          go_wp2_with fail
          go_roundw
          case rel =>
            obtain ⟨r1, r2, r3, r4, r5⟩ := REL.out
            have hsn := HSN.out
            rw [if_neg hnin] at hsn
            refine ⟨k + 1, by omega, by go_num, r1.far (by simp; omega) _, r2.far (by simp) _, ⟨_, r3.set 1 _, ?_⟩, r5.setCell (by simp; omega) _⟩
            rw [hsn, List.length_append, bcells_append]
            exact r4.kept (grown_setCell _ _ _) (own_offN r4 (Nat.lt_succ_self _))
          case measure => simp [intOf]; omega
      · rw [hin] at HAS
        go_wp2_with fail
        refine (HAS.out _ hLw).mono ?_
        rintro e w2 ⟨rfl, hb2⟩
        have hyin : br ∈ l := by simpa using hin
        have REL := Lib.hid (And.intro (q1.below hb2 l1) (And.intro (q2.below hb2 l2) (And.intro (q3.below hb2 l3) (And.intro (own_belowG hO hb2) (hB.trans (hb2.mono hBs))))))
        clear q1 q2 q3 hO c0 c1 e0 e1 e2 e3
        go_wp2_with fail
        go_roundw
        case rel =>
          have hsn := HSN.out
          rw [if_pos hyin] at hsn
          exact ⟨k + 1, by omega, by go_num, REL.out.1, REL.out.2.1, ⟨V, REL.out.2.2.1, by rw [hsn]; exact REL.out.2.2.2.1⟩, REL.out.2.2.2.2⟩
        case measure => simp [intOf]; omega
    · obtain rfl : k = bs.length := by omega
      rw [List.take_length] at hO
      have d0 := q3.cell 0
      have d1 := q3.cell 1
      have g0 := q2.cell 0
      have g1 := q2.cell 1
      have f0 := q2.frozen 0
      have f1 := q2.frozen 1
      simp only [List.getElem?_toArray, List.getElem?_cons_zero, List.getElem?_cons_succ] at d0 d1 g0 g1
      obtain ⟨A', c', rfl, hrd, hnw⟩ := ownB_rd hO (bcells_length _)
      have k5 := (q2.set 0 (.int .i64 N)).set 1 (.slice A' (Ln.woL l bs).length c')
      have hB5 := (hB.setCell (p := ⟨w.heap.size + 1, 0, none⟩) (by simp) (.int .i64 N)).setCell (p := ⟨w.heap.size + 1, 1, none⟩) (by simp) (.slice A' (Ln.woL l bs).length c')
      have hR5 := (hrd.off (p := ⟨w.heap.size + 1, 0, none⟩) (v := .int .i64 N) (by intro a ha; have := hnw a ha; simp; omega)).off (p := ⟨w.heap.size + 1, 1, none⟩) (v := .slice A' (Ln.woL l bs).length c') (by intro a ha; have := hnw a ha; simp; omega)
      have FIN := Lib.hid (And.intro k5 (And.intro hB5 hR5))
      clear k5 hB5 hR5 hO hrd q1 q2 q3
      go_wp2_with fail
      refine bodyPost_ret (v := .agg #[.int .i64 N, .slice A' (Ln.woL l bs).length c']) (results_cell_row rfl _ _ (w.heap.size + 1) 24 _ (0, 0) _ rfl FIN.out.1 Try.underlying24 rfl (by kernel_rfl)) rfl ⟨A', c', rfl, FIN.out.2.2.more (by simp), fun a ha => by have := hnw a ha; omega, FIN.out.2.1⟩

end Go.Proofs.Ytppfpdhgckghdaa
