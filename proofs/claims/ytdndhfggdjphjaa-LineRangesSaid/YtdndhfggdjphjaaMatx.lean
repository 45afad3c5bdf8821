/-
  The reference's Matrix.
-/
import Derived.Test.YtdndhfggdjphjaaFar
import Derived.Test.YtdndhfggdjphjaaLast
set_option linter.unusedVariables false
set_option linter.unusedSimpArgs false
namespace Go.Proofs.Ytdndhfggdjphjaa
open Go.RowKit

theorem cell_far (w : World) (p : Addr) (v : Value) (i : Nat) {g : Nat} (h : g ≠ p.block) : (w.setCell p v).cell? ⟨g, i, none⟩ = w.cell? ⟨g, i, none⟩ := by
  have := Below.heap_setCell w p v g h
  simp only [World.cell?, this]

/-- The matrix while its rows are laid: k of them. -/
structure MP (w : World) (G N k : Nat) (blk : Nat → Nat) : Prop where
  out : Bk w G 124 (oc N (fun a => if a < k then .slice (some ⟨blk a, 0, none⟩) N N else .slice none 0 0))
  row : ∀ a, a < k → Bk w (blk a) 123 (fc N (Ln.diag a))
  ap : Ap G k blk

set_option maxRecDepth 100000 in
set_option maxHeartbeats 4000000 in
theorem matrix_any {N : Nat} {bs : List Ln.Bd} (hok : Ln.Ok N bs) (hl : ∀ b ∈ bs, b.gone = false) (hNN : Ln.NoNeg bs) (h14 : N ≤ 14) (A : Option Addr) (c : Nat) (w : World) (hR : Rd w w.heap.size 4 A bs.length (bcells bs)) :
    Calls Try.prog 53 #[.agg #[.int .i64 N, .slice A bs.length c]] w fun e w' => ∃ G blk, e = .returned (.slice (some ⟨G, 0, none⟩) N N) ∧ MM w' G N blk (Ln.mtx bs N) ∧ Ap G N blk ∧ w.heap.size ≤ G ∧ Below w.heap.size w w' := by
  obtain ⟨i0, hi0, hz0, hz1, hz2⟩ := info_parts infoR
  obtain ⟨i1, hi1, hy0, hy1, hy2⟩ := info_parts infoF
  have hlen := hok.len
  have htop := hok.top
  have hpos := hok.pos
  have hB0 : Below w.heap.size w (w.alloc (.cells #[.int .i64 N, .slice A bs.length c] 24)) := (Below.refl _ _).alloc (Nat.le_refl _) _
  have k0 := Bk.new w 24 #[.int .i64 N, .slice A bs.length c]
  have hB1 := hB0.alloc hB0.size (.cells (oc N (fun _ => .slice none 0 0)) 124)
  have k1 := k0.alloc (.cells (oc N (fun _ => .slice none 0 0)) 124)
  have kG := Bk.new (w.alloc (.cells #[.int .i64 N, .slice A bs.length c] 24)) 124 (oc N (fun _ => .slice none 0 0))
  rw [World.size_alloc] at kG
  go_enter Try.func53, Try.ntmps53
  go_wp2_with (refine wpList_make_exact _ rfl _ _ 81 rfl 124 i0 _ 1 24 Try.underlying81 hi0 hz0 hz1 hz2 N rfl rfl (by omega) (by omega) (oc N (fun _ => .slice none 0 0)) (oc_made N) ?_)
  obtain ⟨sb, hsb⟩ : ∃ sb, w.heap.size = sb := ⟨_, rfl⟩
  obtain ⟨G, hG⟩ : ∃ G, sb + 1 = G := ⟨_, rfl⟩
  obtain ⟨W1, hW1⟩ : ∃ W1, (w.alloc (.cells #[.int .i64 N, .slice A bs.length c] 24)).alloc (.cells (oc N (fun _ => .slice none 0 0)) 124) = W1 := ⟨_, rfl⟩
  simp only [hsb, hG] at kG k1 hB1 hR ⊢
  rw [hW1] at kG k1 hB1 ⊢
  clear k0 hB0 hW1
  go_loopw [4] (fun i wr => ∃ (k : Nat) (blk : Nat → Nat), k ≤ N ∧ i = .int .i64 k ∧ Bk wr sb 24 #[.int .i64 N, .slice A bs.length c] ∧ MP wr G N k blk ∧ Below sb w wr)
    (fun i _ => N - (intOf i).toNat)
  case atStart => exact ⟨0, (fun _ => 0), Nat.zero_le _, rfl, k1, ⟨by simpa using kG, fun a ha => by omega, ⟨fun a b ha => by omega, fun a ha => by omega⟩⟩, hB1⟩
  case round =>
    clear kG k1 hB1
    obtain ⟨k, blk, hk, rfl, k1, hM, hB⟩ := hrel
    have c0 := k1.cell 0
    simp only [List.getElem?_toArray, List.getElem?_cons_zero, List.getElem?_cons_succ] at c0
    have hs1 := k1.lt
    have hGl := hM.out.lt
    by_cases hkl : k < N
    · have hk0 : (0 : Int) ≤ (k : Int) := Int.natCast_nonneg _
      have hkN : (k : Int) < (N : Int) := by omega
      have cO := (hM.out.cell k).trans (oc_at _ hkl)
      have fO := hM.out.frozen k
      simp only [if_neg (Nat.lt_irrefl k)] at cO
      go_upto_region 6 with (refine wpList_make_exact _ rfl _ _ 124 rfl 123 i1 _ 2 16 Try.underlying124 hi1 hy0 hy1 hy2 N rfl rfl (by omega) (by omega) (fc N (fun _ => Ln.fr0)) (fc_zero N) ?_)
      obtain ⟨h, hh⟩ : ∃ h, wr.heap.size = h := ⟨_, rfl⟩
      have k2 := (k1.far (p := ⟨G, k, none⟩) (by simp; omega) (.slice (some ⟨h, 0, none⟩) N N)).alloc (.cells (fc N (fun _ => Ln.fr0)) 123)
      have g2 := (hM.out.set k (.slice (some ⟨h, 0, none⟩) N N)).alloc (.cells (fc N (fun _ => Ln.fr0)) 123)
      have r2 := Bk.new (wr.setCell ⟨G, k, none⟩ (.slice (some ⟨h, 0, none⟩) N N)) 123 (fc N (fun _ => Ln.fr0))
      rw [size_setCell] at r2
      have o2 : ∀ a, a < k → Bk ((wr.setCell ⟨G, k, none⟩ (.slice (some ⟨h, 0, none⟩) N N)).alloc (.cells (fc N (fun _ => Ln.fr0)) 123)) (blk a) 123 (fc N (Ln.diag a)) := fun a ha => ((hM.row a ha).far (by have := hM.ap.gt a ha; simp; omega) _).alloc _
      have hB2 := (hB.setCell (p := ⟨G, k, none⟩) (by simp; omega) (.slice (some ⟨h, 0, none⟩) N N)).alloc (by rw [size_setCell]; omega) (.cells (fc N (fun _ => Ln.fr0)) 123)
      have hbl : ∀ a, a < k → blk a < h := fun a ha => by have := (hM.row a ha).lt; omega
      rw [hh] at r2 ⊢
      obtain ⟨W2, hW2⟩ : ∃ W2, (wr.setCell ⟨G, k, none⟩ (.slice (some ⟨h, 0, none⟩) N N)).alloc (.cells (fc N (fun _ => Ln.fr0)) 123) = W2 := ⟨_, rfl⟩
      rw [hW2] at k2 g2 r2 hB2 ⊢
      simp only [hW2] at o2
      rw [oc_set] at g2
      have cG := (g2.cell k).trans (oc_at _ hkl)
      simp only [if_true] at cG
      have cs0 := k2.cell 0
      simp only [List.getElem?_toArray, List.getElem?_cons_zero, List.getElem?_cons_succ] at cs0
      obtain ⟨d0, d1⟩ := fc_at (N := N) (fun _ => Ln.fr0) hkl
      have e0 := (r2.cell (k * 2)).trans d0
      have e1 := (r2.cell (k * 2 + 1)).trans d1
      have f0 := r2.frozen (k * 2)
      have f1 := r2.frozen (k * 2 + 1)
      have r3 := (r2.set (k * 2) (.int .i64 0)).set (k * 2 + 1) (.bool true)
      rw [fc_set _ hkl] at r3
      have hG2 := g2.lt
      have hh2 := r2.lt
      have hap := hM.ap
      have REL := Lib.hid (And.intro k2 (And.intro g2 (And.intro r3 (And.intro o2 (And.intro hB2 (And.intro hap hbl))))))
      clear k2 g2 r3 o2 hB2 hap hbl r2 hM hB k1 c0 cO fO hW2 d0 d1
      go_wp2_with fail
      go_roundw
      case rel =>
        obtain ⟨k2, g2, r3, o2, hB2, hap, hbl⟩ := REL.out
        refine ⟨k + 1, (fun i => if i = k then h else blk i), by omega, by go_num, (k2.far (by simp; omega) _).far (by simp; omega) _, ⟨?_, fun a ha => ?_, ⟨fun a b ha hb e => ?_, fun a ha => ?_⟩⟩, (hB2.setCell (by simp; omega) _).setCell (by simp; omega) _⟩
        · have hf : (fun a => if a < k + 1 then Value.slice (some ⟨if a = k then h else blk a, 0, none⟩) N N else Value.slice none 0 0) = (fun i => if i = k then Value.slice (some ⟨h, 0, none⟩) N N else if i < k then Value.slice (some ⟨blk i, 0, none⟩) N N else Value.slice none 0 0) := by
            funext a
            by_cases e : a = k
            · subst e; simp
            · by_cases e2 : a < k
              · rw [if_pos (by omega), if_neg e, if_neg e, if_pos e2]
              · rw [if_neg (by omega), if_neg e, if_neg e2]
          rw [hf]
          exact (g2.far (by simp; omega) _).far (by simp; omega) _
        · by_cases e : a = k
          · subst e
            rw [if_pos rfl]
            have hf : Ln.diag a = (fun j => if j = a then ((0 : Int), true) else Ln.fr0) := by
              funext j
              unfold Ln.diag
              by_cases e2 : a = j
              · subst e2; simp
              · rw [if_neg e2, if_neg (fun e3 => e2 e3.symm)]
            rw [hf]
            exact r3
          · rw [if_neg e]
            have ha2 : a < k := by omega
            have := hbl a ha2
            exact ((o2 a ha2).far (by simp; omega) _).far (by simp; omega) _
        · by_cases e1 : a = k
          · by_cases e2 : b = k
            · omega
            · rw [if_pos e1, if_neg e2] at e
              have := hbl b (by omega)
              omega
          · by_cases e2 : b = k
            · rw [if_neg e1, if_pos e2] at e
              have := hbl a (by omega)
              omega
            · rw [if_neg e1, if_neg e2] at e
              exact hap.inj a b (by omega) (by omega) e
        · split
          · omega
          · exact hap.gt a (by omega)
      case measure => simp [intOf]; omega
    · obtain rfl : k = N := by omega
      have hM2 : MM wr G k blk (Ln.edK bs 0) := by
        refine ⟨?_, fun a ha => hM.row a ha⟩
        have h1 := hM.out
        have hf : oc k (fun a => if a < k then Value.slice (some ⟨blk a, 0, none⟩) k k else Value.slice none 0 0) = oc k (fun a => .slice (some ⟨blk a, 0, none⟩) k k) := by
          unfold oc
          congr 1
          apply List.map_congr_left
          intro a ha
          rw [if_pos (List.mem_range.1 ha)]
        rw [hf] at h1
        exact h1
      have hap := hM.ap
      clear hM
      have HAP := Lib.hid hap
      have hgt := hap.gt
      clear hap
      go_wp2_with fail
      go_loopw [5] (fun i wr => ∃ j : Nat, j ≤ bs.length ∧ i = .int .i64 j ∧ Bk wr sb 24 #[.int .i64 k, .slice A bs.length c] ∧ MM wr G k blk (Ln.edK bs j) ∧ Below sb w wr)
        (fun i _ => bs.length - (intOf i).toNat)
      case atStart => exact ⟨0, Nat.zero_le _, rfl, k1, hM2, hB⟩
      case round =>
        clear k1 hM2 hB c0
        obtain ⟨j, hj, rfl, k1, hM, hB⟩ := hrel
        have c1 := k1.cell 1
        simp only [List.getElem?_toArray, List.getElem?_cons_zero, List.getElem?_cons_succ] at c1
        have hs1 := k1.lt
        by_cases hjl : j < bs.length
        · obtain ⟨b, off, hA, hb, e0, e1, e2, e3⟩ := (hR.below hB (by omega)).bound hjl
          subst hA
          rw [← Ln.bd_eq hjl] at e0 e1 e2 e3
          have hof := hok.each _ (Ln.bd_mem hjl)
          have hstep := Ln.edK_succ bs j
          obtain ⟨p, hp⟩ : ∃ p : Nat, (Ln.bd bs j).f = p := ⟨(Ln.bd bs j).f.toNat, by omega⟩
          obtain ⟨q, hq⟩ : ∃ q : Nat, (Ln.bd bs j).t = q := ⟨(Ln.bd bs j).t.toNat, by omega⟩
          obtain ⟨m, hm⟩ : ∃ m, (Ln.bd bs j).m = m := ⟨_, rfl⟩
          rw [Ln.edS, hp, hq, hm] at hstep
          simp only [Int.toNat_natCast] at hstep
          rw [hp] at e0 hof
          rw [hq] at e1 hof
          rw [hm] at e2
          have hpN : p < k := by omega
          have hqN : q < k := by omega
          obtain ⟨D, hD⟩ : ∃ D, Ln.edK bs j = D := ⟨_, rfl⟩
          rw [hD] at hM hstep
          have hbW : b < wr.heap.size := by have := hB.size; omega
          have hpi : (p : Int) < (k : Int) := by omega
          have hqi : (q : Int) < (k : Int) := by omega
          have HM := Lib.hid hM
          have HST := Lib.hid hstep
          clear hp hq hm hD hof hstep hM
          go_upto_region 11 with fail
          obtain ⟨h, hh⟩ : ∃ h, wr.heap.size = h := ⟨_, rfl⟩
          have kx := Bk.new wr 52 #[.int .i64 p, .int .i64 q, .int .i64 m, .int .i64 (Ln.bd bs j).r]
          have hM2 := HM.out.alloc (.cells #[.int .i64 p, .int .i64 q, .int .i64 m, .int .i64 (Ln.bd bs j).r] 52)
          have k2 := k1.alloc (.cells #[.int .i64 p, .int .i64 q, .int .i64 m, .int .i64 (Ln.bd bs j).r] 52)
          have hB2 := hB.alloc (by omega) (.cells #[.int .i64 p, .int .i64 q, .int .i64 m, .int .i64 (Ln.bd bs j).r] 52)
          obtain ⟨wX, hwX⟩ : ∃ wX, wr.alloc (.cells #[.int .i64 p, .int .i64 q, .int .i64 m, .int .i64 (Ln.bd bs j).r] 52) = wX := ⟨_, rfl⟩
          rw [hh] at kx ⊢
          rw [hwX] at kx hM2 k2 hB2 ⊢
          clear k1 hB e0 e1 e2 e3
          obtain ⟨⟨x, y⟩, hxy⟩ : ∃ z, D p q = z := ⟨_, rfl⟩
          obtain ⟨u, hu⟩ : ∃ u, Ln.lesserF (x, y) (m, true) = u := ⟨_, rfl⟩
          have hst := HST.out
          rw [hxy, hu] at hst
          have cc := hM2.cells hpN hqN
          rw [hxy] at cc
          dsimp only at cc
          obtain ⟨d0, d1⟩ := cc
          have dO := hM2.cellO hpN
          have x0 := kx.cell 0
          have x1 := kx.cell 1
          have x2 := kx.cell 2
          simp only [List.getElem?_toArray, List.getElem?_cons_zero, List.getElem?_cons_succ] at x0 x1 x2
          have lG := hM2.out.lt
          have lp := (hM2.row p hpN).lt
          have lx := kx.lt
          have hSB : ∀ W, Below wX.heap.size wX W → ((W.cell? ⟨G, p, none⟩ = some (.slice (some ⟨blk p, 0, none⟩) k k) ∧ W.cell? ⟨blk p, q * 2, none⟩ = some (.int .i64 x)) ∧ W.cell? ⟨blk p, q * 2 + 1, none⟩ = some (.bool y)) ∧ (W.cell? ⟨h, 0, none⟩ = some (.int .i64 p) ∧ W.cell? ⟨h, 1, none⟩ = some (.int .i64 q)) ∧ W.cell? ⟨h, 2, none⟩ = some (.int .i64 m) := fun W hb =>
            ⟨⟨⟨(hb.cell (p := ⟨G, p, none⟩) lG).trans dO, (hb.cell (p := ⟨blk p, q * 2, none⟩) lp).trans d0⟩, (hb.cell (p := ⟨blk p, q * 2 + 1, none⟩) lp).trans d1⟩, ⟨(hb.cell (p := ⟨h, 0, none⟩) lx).trans x0, (hb.cell (p := ⟨h, 1, none⟩) lx).trans x1⟩, (hb.cell (p := ⟨h, 2, none⟩) lx).trans x2⟩
          have hgp := hgt p hpN
          have hles := fun w => lesser_any x y m true w
          rw [hu] at hles
          have HSB := Lib.hid hSB
          have HLES := Lib.hid hles
          have HM2 := Lib.hid hM2
          have K2 := Lib.hid k2
          have HB2 := Lib.hid hB2
          clear hSB hles hM2 k2 hB2 hu hxy kx HST hwX hh HM d0 d1 x0 x1 x2 dO
          have HST := Lib.hid hst
          clear hst
          refine wp_region_last2 (S := fun W => ((W.cell? ⟨G, p, none⟩ = some (.slice (some ⟨blk p, 0, none⟩) k k) ∧ W.cell? ⟨blk p, q * 2, none⟩ = some (.int .i64 x)) ∧ W.cell? ⟨blk p, q * 2 + 1, none⟩ = some (.bool y)) ∧ (W.cell? ⟨h, 0, none⟩ = some (.int .i64 p) ∧ W.cell? ⟨h, 1, none⟩ = some (.int .i64 q)) ∧ W.cell? ⟨h, 2, none⟩ = some (.int .i64 m)) 21 rfl rfl (by kernel_rfl) (by kernel_rfl) (HSB.out _ (Below.refl _ wX).drew) (fun hHeld => ?_)
          simp only [List.take_succ_cons, List.take_zero]
          refine wpAnyH_take (i := 0) (v := ?_) rfl (by kernel_rfl) (by kernel_rfl) (by kernel_rfl) (fun _ _ _ h => h) (Or.inl ⟨by rfl, ?_⟩) (by assumption) ?_
          rotate_left
          · (intro w hSw; (try dsimp only at hSw); go_simp <;> with_reducible rfl)
          (try simp only [Act.put, List.setIfInBounds_toArray, List.set_cons_zero, List.set_cons_succ])
          refine wpAnyH_take (i := 1) (v := ?_) rfl (by kernel_rfl) (by kernel_rfl) (by kernel_rfl) (fun _ _ _ h => h) (Or.inl ⟨by rfl, ?_⟩) (by assumption) ?_
          rotate_left
          · (intro w hSw; (try dsimp only at hSw); go_simp <;> with_reducible rfl)
          (try simp only [Act.put, List.setIfInBounds_toArray, List.set_cons_zero, List.set_cons_succ])
          refine wpAnyH_take (i := 2) (v := ?_) rfl (by kernel_rfl) (by kernel_rfl) (by kernel_rfl) (fun _ _ _ h => h) (Or.inl ⟨by rfl, ?_⟩) (by assumption) ?_
          rotate_left
          · (intro w hSw; (try dsimp only at hSw); go_simp <;> with_reducible rfl)
          (try simp only [Act.put, List.setIfInBounds_toArray, List.set_cons_zero, List.set_cons_succ])
          refine wpAnyH_take (i := 3) (v := ?_) rfl (by kernel_rfl) (by kernel_rfl) (by kernel_rfl) (fun _ _ _ h => h) (Or.inl ⟨by rfl, ?_⟩) (by assumption) ?_
          rotate_left
          · (intro w hSw; (try dsimp only at hSw); go_simp <;> with_reducible rfl)
          (try simp only [Act.put, List.setIfInBounds_toArray, List.set_cons_zero, List.set_cons_succ])
          refine wpAnyH_take (i := 4) (v := ?_) rfl (by kernel_rfl) (by kernel_rfl) (by kernel_rfl) (fun _ _ _ h => h) (Or.inl ⟨by rfl, ?_⟩) (by assumption) ?_
          rotate_left
          · (intro w hSw; (try dsimp only at hSw); go_simp <;> with_reducible rfl)
          (try simp only [Act.put, List.setIfInBounds_toArray, List.set_cons_zero, List.set_cons_succ])
          refine wpAnyH_take (i := 5) (v := ?_) rfl (by kernel_rfl) (by kernel_rfl) (by kernel_rfl) (fun _ _ _ h => h) (Or.inl ⟨by rfl, ?_⟩) (by assumption) ?_
          rotate_left
          · (intro w hSw; (try dsimp only at hSw); go_simp <;> with_reducible rfl)
          (try simp only [Act.put, List.setIfInBounds_toArray, List.set_cons_zero, List.set_cons_succ])
          refine wpAnyH_take (i := 6) (v := ?_) rfl (by kernel_rfl) (by kernel_rfl) (by kernel_rfl) (fun _ _ _ h => h) (Or.inl ⟨by rfl, ?_⟩) (by assumption) ?_
          rotate_left
          · (intro w hSw; (try dsimp only at hSw); go_simp <;> with_reducible rfl)
          (try simp only [Act.put, List.setIfInBounds_toArray, List.set_cons_zero, List.set_cons_succ])
          refine wpAnyH_take (i := 7) (v := ?_) rfl (by kernel_rfl) (by kernel_rfl) (by kernel_rfl) (fun _ _ _ h => h) (Or.inl ⟨by rfl, ?_⟩) (by assumption) ?_
          rotate_left
          · (intro w hSw; (try dsimp only at hSw); go_simp <;> with_reducible rfl)
          (try simp only [Act.put, List.setIfInBounds_toArray, List.set_cons_zero, List.set_cons_succ])
          refine wpAnyH_take (i := 8) (v := ?_) rfl (by kernel_rfl) (by kernel_rfl) (by kernel_rfl) (fun _ _ _ h => h) (Or.inl ⟨by rfl, ?_⟩) (by assumption) ?_
          rotate_left
          · (intro w hSw; (try dsimp only at hSw); go_simp <;> with_reducible rfl)
          (try simp only [Act.put, List.setIfInBounds_toArray, List.set_cons_zero, List.set_cons_succ])
          refine wpAnyH_take (i := 9) (v := ?_) rfl (by kernel_rfl) (by kernel_rfl) (by kernel_rfl) (fun _ _ _ h => h) (Or.inl ⟨by rfl, ?_⟩) (by assumption) ?_
          rotate_left
          · (intro w hSw; (try dsimp only at hSw); go_simp <;> with_reducible rfl)
          (try simp only [Act.put, List.setIfInBounds_toArray, List.set_cons_zero, List.set_cons_succ])
          refine wpAnyH_take (i := 10) (v := ?_) rfl (by kernel_rfl) (by kernel_rfl) (by kernel_rfl) (fun _ _ _ h => h) (Or.inl ⟨by rfl, ?_⟩) (by assumption) ?_
          rotate_left
          · (intro w hSw; (try dsimp only at hSw); go_simp <;> with_reducible rfl)
          (try simp only [Act.put, List.setIfInBounds_toArray, List.set_cons_zero, List.set_cons_succ])
          refine wpAnyH_take (i := 11) (v := ?_) rfl (by kernel_rfl) (by kernel_rfl) (by kernel_rfl) (fun _ _ _ h => h) (Or.inl ⟨by rfl, ?_⟩) (by assumption) ?_
          rotate_left
          · (intro w hSw; (try dsimp only at hSw); go_simp <;> with_reducible rfl)
          (try simp only [Act.put, List.setIfInBounds_toArray, List.set_cons_zero, List.set_cons_succ])
          refine wpAnyH_take (i := 12) (v := ?_) rfl (by kernel_rfl) (by kernel_rfl) (by kernel_rfl) (fun _ _ _ h => h) (Or.inl ⟨by rfl, ?_⟩) (by assumption) ?_
          rotate_left
          · (intro w hSw; (try dsimp only at hSw); go_simp <;> with_reducible rfl)
          (try simp only [Act.put, List.setIfInBounds_toArray, List.set_cons_zero, List.set_cons_succ])
          refine wpAnyH_take (i := 13) (v := ?_) rfl (by kernel_rfl) (by kernel_rfl) (by kernel_rfl) (fun _ _ _ h => h) (Or.inl ⟨by rfl, ?_⟩) (by assumption) ?_
          rotate_left
          · (intro w hSw; (try dsimp only at hSw); go_simp <;> with_reducible rfl)
          (try simp only [Act.put, List.setIfInBounds_toArray, List.set_cons_zero, List.set_cons_succ])
          refine wpAnyH_take (i := 14) (v := ?_) rfl (by kernel_rfl) (by kernel_rfl) (by kernel_rfl) (fun _ _ _ h => h) (Or.inl ⟨by rfl, ?_⟩) (by assumption) ?_
          rotate_left
          · (intro w hSw; (try dsimp only at hSw); go_simp <;> with_reducible rfl)
          (try simp only [Act.put, List.setIfInBounds_toArray, List.set_cons_zero, List.set_cons_succ])
          refine wpAnyH_take (i := 15) (v := ?_) rfl (by kernel_rfl) (by kernel_rfl) (by kernel_rfl) (fun _ _ _ h => h) (Or.inl ⟨by rfl, ?_⟩) (by assumption) ?_
          rotate_left
          · (intro w hSw; (try dsimp only at hSw); go_simp <;> with_reducible rfl)
          (try simp only [Act.put, List.setIfInBounds_toArray, List.set_cons_zero, List.set_cons_succ])
          refine wpAnyH_take (i := 16) (v := ?_) rfl (by kernel_rfl) (by kernel_rfl) (by kernel_rfl) (fun _ _ _ h => h) (Or.inl ⟨by rfl, ?_⟩) (by assumption) ?_
          rotate_left
          · (intro w hSw; (try dsimp only at hSw); go_simp <;> with_reducible rfl)
          (try simp only [Act.put, List.setIfInBounds_toArray, List.set_cons_zero, List.set_cons_succ])
          refine wpAnyH_take (i := 17) (v := ?_) rfl (by kernel_rfl) (by kernel_rfl) (by kernel_rfl) (fun _ _ _ h => h) (Or.inl ⟨by rfl, ?_⟩) (by assumption) ?_
          rotate_left
          · (intro w hSw; (try dsimp only at hSw); go_simp <;> with_reducible rfl)
          (try simp only [Act.put, List.setIfInBounds_toArray, List.set_cons_zero, List.set_cons_succ])
          refine wpAnyH_take (i := 18) (v := ?_) rfl (by kernel_rfl) (by kernel_rfl) (by kernel_rfl) (fun _ _ _ h => h) (Or.inl ⟨by rfl, ?_⟩) (by assumption) ?_
          rotate_left
          · (intro w hSw; (try dsimp only at hSw); go_simp <;> with_reducible rfl)
          (try simp only [Act.put, List.setIfInBounds_toArray, List.set_cons_zero, List.set_cons_succ])
          refine wpAnyH_ready (rs := [19]) (by kernel_rfl) (by simp) ?_
          refine AllReadyH.cons rfl (fun K hK => ?_) AllReadyH.nil
          go_simp
          (go_at_call 84; refine (HLES.out _).mono ?_; rintro e w2 ⟨rfl, hb2⟩; have hbC : Below wX.heap.size wX w2 := (Below.refl _ wX).drew.trans hb2; have m2 := HM2.out.below hbC; have f0 := m2.frozen hpN (q * 2); have f1 := m2.frozen hpN (q * 2 + 1); obtain ⟨c0, c1⟩ := m2.cells hpN hqN; clear m2)
          (try go_wp2_with fail)
          refine hK.out _ _ (HSB.out _ hbC) (fun hHeld => ?_)
          clear hK
          (try simp only [Act.put, List.setIfInBounds_toArray, List.set_cons_zero, List.set_cons_succ])
          refine wpAnyH_take (i := 20) (v := ?_) rfl (by kernel_rfl) (by kernel_rfl) (by kernel_rfl) (fun _ _ _ h => h) (Or.inl ⟨by rfl, ?_⟩) (by assumption) ?_
          rotate_left
          · (intro w hSw; (try dsimp only at hSw); go_simp <;> with_reducible rfl)
          (try simp only [Act.put, List.setIfInBounds_toArray, List.set_cons_zero, List.set_cons_succ])
          refine wpAnyH_done (by kernel_rfl) ?_ _
          simp only [QLast]
          go_wp2_with fail
          go_roundw
          case rel =>
            have m9 := (HM2.out.below hbC).set HAP.out hpN hqN u.1 u.2
            rw [show Ln.up D p q (u.1, u.2) = Ln.edK bs (j + 1) from HST.out.symm] at m9
            exact ⟨j + 1, by omega, by go_num, (((K2.out.below hbC K2.out.lt).far (by simp; omega) _).far (by simp; omega) _), m9, ((HB2.out.trans (hbC.mono (Nat.le_of_lt K2.out.lt))).setCell (by simp; omega) _).setCell (by simp; omega) _⟩
          case measure => simp [intOf]; omega
        · obtain rfl : j = bs.length := by omega
          obtain ⟨E, hE⟩ : ∃ E, Ln.edK bs bs.length = E := ⟨_, rfl⟩
          have hsm : ∀ c a n i j, c < k → a < k → n ≤ k → i < k → j < k → -100000000000 ≤ (Ln.fwB c a (Ln.fwA k c (Ln.fwC k (Ln.edK bs bs.length) c) a) n i j).1 ∧ (Ln.fwB c a (Ln.fwA k c (Ln.fwC k (Ln.edK bs bs.length) c) a) n i j).1 ≤ 100000000000 := fun c a n i j h1 h2 h3 h4 h5 => Ln.fw_small hok hl hNN h14 h1 h2 h3 h4 h5
          have hmt : Ln.mtx bs k = Ln.fwC k E k := by rw [← hE]; rfl
          simp only [hE] at hM hsm
          have HMT := Lib.hid hmt
          have HSM := Lib.hid hsm
          clear hmt hsm hE
          go_wp2_with fail
          go_loopw [7] (fun i wr => ∃ kc : Nat, kc ≤ k ∧ i = .int .i64 kc ∧ Bk wr sb 24 #[.int .i64 k, .slice A bs.length c] ∧ MM wr G k blk (Ln.fwC k E kc) ∧ Below sb w wr)
            (fun i _ => k - (intOf i).toNat)
          case atStart => exact ⟨0, Nat.zero_le _, rfl, k1, hM, hB⟩
          case round =>
            clear k1 hM hB c1
            obtain ⟨kc, hkc, rfl, k1, hM, hB⟩ := hrel
            have c0 := k1.cell 0
            simp only [List.getElem?_toArray, List.getElem?_cons_zero, List.getElem?_cons_succ] at c0
            have hs1 := k1.lt
            by_cases hcl : kc < k
            · have hci : (kc : Int) < (k : Int) := by omega
              have hc0 : (0 : Int) ≤ (kc : Int) := Int.natCast_nonneg _
              go_wp2_with fail
              go_loopw [8] (fun i wr => ∃ ka : Nat, ka ≤ k ∧ i = .int .i64 ka ∧ Bk wr sb 24 #[.int .i64 k, .slice A bs.length c] ∧ MM wr G k blk (Ln.fwA k kc (Ln.fwC k E kc) ka) ∧ Below sb w wr)
                (fun i _ => k - (intOf i).toNat)
              case atStart => exact ⟨0, Nat.zero_le _, rfl, k1, hM, hB⟩
              case round =>
                clear k1 hM hB c0
                obtain ⟨ka, hka, rfl, k1, hM, hB⟩ := hrel
                have c0 := k1.cell 0
                simp only [List.getElem?_toArray, List.getElem?_cons_zero, List.getElem?_cons_succ] at c0
                have hs1 := k1.lt
                by_cases hal : ka < k
                · have hai : (ka : Int) < (k : Int) := by omega
                  have ha0 : (0 : Int) ≤ (ka : Int) := Int.natCast_nonneg _
                  go_wp2_with fail
                  go_loopw [9] (fun i wr => ∃ kb : Nat, kb ≤ k ∧ i = .int .i64 kb ∧ Bk wr sb 24 #[.int .i64 k, .slice A bs.length c] ∧ MM wr G k blk (Ln.fwB kc ka (Ln.fwA k kc (Ln.fwC k E kc) ka) kb) ∧ Below sb w wr)
                    (fun i _ => k - (intOf i).toNat)
                  case atStart => exact ⟨0, Nat.zero_le _, rfl, k1, hM, hB⟩
                  case round =>
                    clear k1 hM hB c0
                    obtain ⟨kb, hkb, rfl, k1, hM, hB⟩ := hrel
                    have c0 := k1.cell 0
                    simp only [List.getElem?_toArray, List.getElem?_cons_zero, List.getElem?_cons_succ] at c0
                    have hs1 := k1.lt
                    by_cases hbl : kb < k
                    · have hbi : (kb : Int) < (k : Int) := by omega
                      have hb0 : (0 : Int) ≤ (kb : Int) := Int.natCast_nonneg _
                      have hst := Ln.fwB_succ kc ka (Ln.fwA k kc (Ln.fwC k E kc) ka) kb
                      have b1 := HSM.out kc ka kb ka kc hcl hal hkb hal hcl
                      have b2 := HSM.out kc ka kb kc kb hcl hal hkb hcl hbl
                      obtain ⟨D, hD⟩ : ∃ D, Ln.fwB kc ka (Ln.fwA k kc (Ln.fwC k E kc) ka) kb = D := ⟨_, rfl⟩
                      rw [hD] at hM hst b1 b2
                      rw [Ln.fwS] at hst
                      clear hD
                      have gO := hM.cellO hal
                      have gC := hM.cellO hcl
                      obtain ⟨v1, v2⟩ := hM.cells hal hcl
                      obtain ⟨v3, v4⟩ := hM.cells hcl hbl
                      obtain ⟨v5, v6⟩ := hM.cells hal hbl
                      obtain ⟨⟨xac, yac⟩, hac⟩ : ∃ z, D ka kc = z := ⟨_, rfl⟩
                      obtain ⟨⟨xcb, ycb⟩, hcb⟩ : ∃ z, D kc kb = z := ⟨_, rfl⟩
                      obtain ⟨⟨xab, yab⟩, hab⟩ : ∃ z, D ka kb = z := ⟨_, rfl⟩
                      rw [hac] at v1 v2 hst b1
                      rw [hcb] at v3 v4 hst b2
                      rw [hab] at v5 v6 hst
                      dsimp only at v1 v2 v3 v4 v5 v6 hst b1 b2
                      obtain ⟨b11, b12⟩ := b1
                      obtain ⟨b21, b22⟩ := b2
                      have lG := hM.out.lt
                      have la := (hM.row ka hal).lt
                      have lc := (hM.row kc hcl).lt
                      clear hac hcb hab
                      have HST := Lib.hid hst
                      have HM := Lib.hid hM
                      have HB := Lib.hid hB
                      clear hst hM hB
                      rcases yac with _ | _
                      · go_wp2_with fail
                        go_roundw
                        case rel =>
                          have h := HST.out
                          simp only [Bool.false_and, Bool.false_eq_true, if_false] at h
                          exact ⟨kb + 1, by omega, by go_num, k1, by rw [h]; exact HM.out, HB.out⟩
                        case measure => simp [intOf]; omega
                      · rcases ycb with _ | _
                        · go_wp2_with fail
                          go_roundw
                          case rel =>
                            have h := HST.out
                            simp only [Bool.and_false, Bool.false_eq_true, if_false] at h
                            exact ⟨kb + 1, by omega, by go_num, k1, by rw [h]; exact HM.out, HB.out⟩
                          case measure => simp [intOf]; omega
                        · obtain ⟨u, hu⟩ : ∃ u, Ln.lesserF (xab, yab) (xac + xcb, true) = u := ⟨_, rfl⟩
                          have hst := HST.out
                          simp only [Bool.and_self, if_true] at hst
                          rw [hu] at hst
                          have hles := fun w => lesser_any xab yab (xac + xcb) true w
                          rw [hu] at hles
                          have hSB : ∀ W, Below wr.heap.size wr W → ((W.cell? ⟨G, ka, none⟩ = some (.slice (some ⟨blk ka, 0, none⟩) k k) ∧ W.cell? ⟨G, kc, none⟩ = some (.slice (some ⟨blk kc, 0, none⟩) k k)) ∧ W.cell? ⟨blk kc, kb * 2, none⟩ = some (.int .i64 xcb)) ∧ (W.cell? ⟨blk ka, kc * 2, none⟩ = some (.int .i64 xac) ∧ W.cell? ⟨blk ka, kc * 2 + 1, none⟩ = some (.bool true)) ∧ (W.cell? ⟨blk ka, kb * 2, none⟩ = some (.int .i64 xab) ∧ W.cell? ⟨blk ka, kb * 2 + 1, none⟩ = some (.bool yab)) := fun W hb =>
                            ⟨⟨⟨(hb.cell (p := ⟨G, ka, none⟩) lG).trans gO, (hb.cell (p := ⟨G, kc, none⟩) lG).trans gC⟩, (hb.cell (p := ⟨blk kc, kb * 2, none⟩) lc).trans v3⟩, ⟨(hb.cell (p := ⟨blk ka, kc * 2, none⟩) la).trans v1, (hb.cell (p := ⟨blk ka, kc * 2 + 1, none⟩) la).trans v2⟩, (hb.cell (p := ⟨blk ka, kb * 2, none⟩) la).trans v5, (hb.cell (p := ⟨blk ka, kb * 2 + 1, none⟩) la).trans v6⟩
                          have hga := hgt ka hal
                          have HSB := Lib.hid hSB
                          have HLES := Lib.hid hles
                          clear hSB hles HST hu
                          have HST := Lib.hid hst
                          clear hst
                          go_upto_region 22 with fail
                          clear v1 v2 v3 v4 v5 v6 gO gC
                          refine wp_region_last2 (S := fun W => ((W.cell? ⟨G, ka, none⟩ = some (.slice (some ⟨blk ka, 0, none⟩) k k) ∧ W.cell? ⟨G, kc, none⟩ = some (.slice (some ⟨blk kc, 0, none⟩) k k)) ∧ W.cell? ⟨blk kc, kb * 2, none⟩ = some (.int .i64 xcb)) ∧ (W.cell? ⟨blk ka, kc * 2, none⟩ = some (.int .i64 xac) ∧ W.cell? ⟨blk ka, kc * 2 + 1, none⟩ = some (.bool true)) ∧ (W.cell? ⟨blk ka, kb * 2, none⟩ = some (.int .i64 xab) ∧ W.cell? ⟨blk ka, kb * 2 + 1, none⟩ = some (.bool yab))) 30 rfl rfl (by kernel_rfl) (by kernel_rfl) (HSB.out _ (Below.refl _ wr).drew) (fun hHeld => ?_)
                          simp only [List.take_succ_cons, List.take_zero]
                          refine wpAnyH_take (i := 0) (v := ?_) rfl (by kernel_rfl) (by kernel_rfl) (by kernel_rfl) (fun _ _ _ h => h) (Or.inl ⟨by rfl, ?_⟩) (by assumption) ?_
                          rotate_left
                          · (intro w hSw; (try dsimp only at hSw); go_simp <;> with_reducible rfl)
                          (try simp only [Act.put, List.setIfInBounds_toArray, List.set_cons_zero, List.set_cons_succ])
                          refine wpAnyH_take (i := 1) (v := ?_) rfl (by kernel_rfl) (by kernel_rfl) (by kernel_rfl) (fun _ _ _ h => h) (Or.inl ⟨by rfl, ?_⟩) (by assumption) ?_
                          rotate_left
                          · (intro w hSw; (try dsimp only at hSw); go_simp <;> with_reducible rfl)
                          (try simp only [Act.put, List.setIfInBounds_toArray, List.set_cons_zero, List.set_cons_succ])
                          refine wpAnyH_take (i := 2) (v := ?_) rfl (by kernel_rfl) (by kernel_rfl) (by kernel_rfl) (fun _ _ _ h => h) (Or.inl ⟨by rfl, ?_⟩) (by assumption) ?_
                          rotate_left
                          · (intro w hSw; (try dsimp only at hSw); go_simp <;> with_reducible rfl)
                          (try simp only [Act.put, List.setIfInBounds_toArray, List.set_cons_zero, List.set_cons_succ])
                          refine wpAnyH_take (i := 3) (v := ?_) rfl (by kernel_rfl) (by kernel_rfl) (by kernel_rfl) (fun _ _ _ h => h) (Or.inl ⟨by rfl, ?_⟩) (by assumption) ?_
                          rotate_left
                          · (intro w hSw; (try dsimp only at hSw); go_simp <;> with_reducible rfl)
                          (try simp only [Act.put, List.setIfInBounds_toArray, List.set_cons_zero, List.set_cons_succ])
                          refine wpAnyH_take (i := 4) (v := ?_) rfl (by kernel_rfl) (by kernel_rfl) (by kernel_rfl) (fun _ _ _ h => h) (Or.inl ⟨by rfl, ?_⟩) (by assumption) ?_
                          rotate_left
                          · (intro w hSw; (try dsimp only at hSw); go_simp <;> with_reducible rfl)
                          (try simp only [Act.put, List.setIfInBounds_toArray, List.set_cons_zero, List.set_cons_succ])
                          refine wpAnyH_take (i := 5) (v := ?_) rfl (by kernel_rfl) (by kernel_rfl) (by kernel_rfl) (fun _ _ _ h => h) (Or.inl ⟨by rfl, ?_⟩) (by assumption) ?_
                          rotate_left
                          · (intro w hSw; (try dsimp only at hSw); go_simp <;> with_reducible rfl)
                          (try simp only [Act.put, List.setIfInBounds_toArray, List.set_cons_zero, List.set_cons_succ])
                          refine wpAnyH_take (i := 6) (v := ?_) rfl (by kernel_rfl) (by kernel_rfl) (by kernel_rfl) (fun _ _ _ h => h) (Or.inl ⟨by rfl, ?_⟩) (by assumption) ?_
                          rotate_left
                          · (intro w hSw; (try dsimp only at hSw); go_simp <;> with_reducible rfl)
                          (try simp only [Act.put, List.setIfInBounds_toArray, List.set_cons_zero, List.set_cons_succ])
                          refine wpAnyH_take (i := 7) (v := ?_) rfl (by kernel_rfl) (by kernel_rfl) (by kernel_rfl) (fun _ _ _ h => h) (Or.inl ⟨by rfl, ?_⟩) (by assumption) ?_
                          rotate_left
                          · (intro w hSw; (try dsimp only at hSw); go_simp <;> with_reducible rfl)
                          (try simp only [Act.put, List.setIfInBounds_toArray, List.set_cons_zero, List.set_cons_succ])
                          refine wpAnyH_take (i := 8) (v := ?_) rfl (by kernel_rfl) (by kernel_rfl) (by kernel_rfl) (fun _ _ _ h => h) (Or.inl ⟨by rfl, ?_⟩) (by assumption) ?_
                          rotate_left
                          · (intro w hSw; (try dsimp only at hSw); go_simp <;> with_reducible rfl)
                          (try simp only [Act.put, List.setIfInBounds_toArray, List.set_cons_zero, List.set_cons_succ])
                          refine wpAnyH_take (i := 9) (v := ?_) rfl (by kernel_rfl) (by kernel_rfl) (by kernel_rfl) (fun _ _ _ h => h) (Or.inl ⟨by rfl, ?_⟩) (by assumption) ?_
                          rotate_left
                          · (intro w hSw; (try dsimp only at hSw); go_simp <;> with_reducible rfl)
                          (try simp only [Act.put, List.setIfInBounds_toArray, List.set_cons_zero, List.set_cons_succ])
                          refine wpAnyH_take (i := 10) (v := ?_) rfl (by kernel_rfl) (by kernel_rfl) (by kernel_rfl) (fun _ _ _ h => h) (Or.inl ⟨by rfl, ?_⟩) (by assumption) ?_
                          rotate_left
                          · (intro w hSw; (try dsimp only at hSw); go_simp <;> with_reducible rfl)
                          (try simp only [Act.put, List.setIfInBounds_toArray, List.set_cons_zero, List.set_cons_succ])
                          refine wpAnyH_take (i := 11) (v := ?_) rfl (by kernel_rfl) (by kernel_rfl) (by kernel_rfl) (fun _ _ _ h => h) (Or.inl ⟨by rfl, ?_⟩) (by assumption) ?_
                          rotate_left
                          · (intro w hSw; (try dsimp only at hSw); go_simp <;> with_reducible rfl)
                          (try simp only [Act.put, List.setIfInBounds_toArray, List.set_cons_zero, List.set_cons_succ])
                          refine wpAnyH_take (i := 12) (v := ?_) rfl (by kernel_rfl) (by kernel_rfl) (by kernel_rfl) (fun _ _ _ h => h) (Or.inl ⟨by rfl, ?_⟩) (by assumption) ?_
                          rotate_left
                          · (intro w hSw; (try dsimp only at hSw); go_simp <;> with_reducible rfl)
                          (try simp only [Act.put, List.setIfInBounds_toArray, List.set_cons_zero, List.set_cons_succ])
                          refine wpAnyH_take (i := 13) (v := ?_) rfl (by kernel_rfl) (by kernel_rfl) (by kernel_rfl) (fun _ _ _ h => h) (Or.inl ⟨by rfl, ?_⟩) (by assumption) ?_
                          rotate_left
                          · (intro w hSw; (try dsimp only at hSw); go_simp <;> with_reducible rfl)
                          (try simp only [Act.put, List.setIfInBounds_toArray, List.set_cons_zero, List.set_cons_succ])
                          refine wpAnyH_take (i := 14) (v := ?_) rfl (by kernel_rfl) (by kernel_rfl) (by kernel_rfl) (fun _ _ _ h => h) (Or.inl ⟨by rfl, ?_⟩) (by assumption) ?_
                          rotate_left
                          · (intro w hSw; (try dsimp only at hSw); go_simp <;> with_reducible rfl)
                          (try simp only [Act.put, List.setIfInBounds_toArray, List.set_cons_zero, List.set_cons_succ])
                          refine wpAnyH_take (i := 15) (v := ?_) rfl (by kernel_rfl) (by kernel_rfl) (by kernel_rfl) (fun _ _ _ h => h) (Or.inl ⟨by rfl, ?_⟩) (by assumption) ?_
                          rotate_left
                          · (intro w hSw; (try dsimp only at hSw); go_simp <;> with_reducible rfl)
                          (try simp only [Act.put, List.setIfInBounds_toArray, List.set_cons_zero, List.set_cons_succ])
                          refine wpAnyH_take (i := 16) (v := ?_) rfl (by kernel_rfl) (by kernel_rfl) (by kernel_rfl) (fun _ _ _ h => h) (Or.inl ⟨by rfl, ?_⟩) (by assumption) ?_
                          rotate_left
                          · (intro w hSw; (try dsimp only at hSw); go_simp <;> with_reducible rfl)
                          (try simp only [Act.put, List.setIfInBounds_toArray, List.set_cons_zero, List.set_cons_succ])
                          refine wpAnyH_take (i := 17) (v := ?_) rfl (by kernel_rfl) (by kernel_rfl) (by kernel_rfl) (fun _ _ _ h => h) (Or.inl ⟨by rfl, ?_⟩) (by assumption) ?_
                          rotate_left
                          · (intro w hSw; (try dsimp only at hSw); go_simp <;> with_reducible rfl)
                          (try simp only [Act.put, List.setIfInBounds_toArray, List.set_cons_zero, List.set_cons_succ])
                          refine wpAnyH_take (i := 18) (v := ?_) rfl (by kernel_rfl) (by kernel_rfl) (by kernel_rfl) (fun _ _ _ h => h) (Or.inl ⟨by rfl, ?_⟩) (by assumption) ?_
                          rotate_left
                          · (intro w hSw; (try dsimp only at hSw); go_simp <;> with_reducible rfl)
                          (try simp only [Act.put, List.setIfInBounds_toArray, List.set_cons_zero, List.set_cons_succ])
                          refine wpAnyH_take (i := 19) (v := ?_) rfl (by kernel_rfl) (by kernel_rfl) (by kernel_rfl) (fun _ _ _ h => h) (Or.inl ⟨by rfl, ?_⟩) (by assumption) ?_
                          rotate_left
                          · (intro w hSw; (try dsimp only at hSw); go_simp <;> with_reducible rfl)
                          (try simp only [Act.put, List.setIfInBounds_toArray, List.set_cons_zero, List.set_cons_succ])
                          refine wpAnyH_take (i := 20) (v := ?_) rfl (by kernel_rfl) (by kernel_rfl) (by kernel_rfl) (fun _ _ _ h => h) (Or.inl ⟨by rfl, ?_⟩) (by assumption) ?_
                          rotate_left
                          · (intro w hSw; (try dsimp only at hSw); go_simp <;> with_reducible rfl)
                          (try simp only [Act.put, List.setIfInBounds_toArray, List.set_cons_zero, List.set_cons_succ])
                          refine wpAnyH_take (i := 21) (v := ?_) rfl (by kernel_rfl) (by kernel_rfl) (by kernel_rfl) (fun _ _ _ h => h) (Or.inl ⟨by rfl, ?_⟩) (by assumption) ?_
                          rotate_left
                          · (intro w hSw; (try dsimp only at hSw); go_simp <;> with_reducible rfl)
                          (try simp only [Act.put, List.setIfInBounds_toArray, List.set_cons_zero, List.set_cons_succ])
                          refine wpAnyH_take (i := 22) (v := ?_) rfl (by kernel_rfl) (by kernel_rfl) (by kernel_rfl) (fun _ _ _ h => h) (Or.inl ⟨by rfl, ?_⟩) (by assumption) ?_
                          rotate_left
                          · (intro w hSw; (try dsimp only at hSw); go_simp <;> with_reducible rfl)
                          (try simp only [Act.put, List.setIfInBounds_toArray, List.set_cons_zero, List.set_cons_succ])
                          refine wpAnyH_take (i := 23) (v := ?_) rfl (by kernel_rfl) (by kernel_rfl) (by kernel_rfl) (fun _ _ _ h => h) (Or.inl ⟨by rfl, ?_⟩) (by assumption) ?_
                          rotate_left
                          · (intro w hSw; (try dsimp only at hSw); go_simp <;> with_reducible rfl)
                          (try simp only [Act.put, List.setIfInBounds_toArray, List.set_cons_zero, List.set_cons_succ])
                          refine wpAnyH_take (i := 24) (v := ?_) rfl (by kernel_rfl) (by kernel_rfl) (by kernel_rfl) (fun _ _ _ h => h) (Or.inl ⟨by rfl, ?_⟩) (by assumption) ?_
                          rotate_left
                          · (intro w hSw; (try dsimp only at hSw); go_simp <;> with_reducible rfl)
                          (try simp only [Act.put, List.setIfInBounds_toArray, List.set_cons_zero, List.set_cons_succ])
                          refine wpAnyH_take (i := 25) (v := ?_) rfl (by kernel_rfl) (by kernel_rfl) (by kernel_rfl) (fun _ _ _ h => h) (Or.inl ⟨by rfl, ?_⟩) (by assumption) ?_
                          rotate_left
                          · (intro w hSw; (try dsimp only at hSw); go_simp <;> with_reducible rfl)
                          (try simp only [Act.put, List.setIfInBounds_toArray, List.set_cons_zero, List.set_cons_succ])
                          refine wpAnyH_take (i := 26) (v := ?_) rfl (by kernel_rfl) (by kernel_rfl) (by kernel_rfl) (fun _ _ _ h => h) (Or.inl ⟨by rfl, ?_⟩) (by assumption) ?_
                          rotate_left
                          · (intro w hSw; (try dsimp only at hSw); go_simp <;> with_reducible rfl)
                          (try simp only [Act.put, List.setIfInBounds_toArray, List.set_cons_zero, List.set_cons_succ])
                          refine wpAnyH_ready (rs := [27]) (by kernel_rfl) (by simp) ?_
                          refine AllReadyH.cons rfl (fun K hK => ?_) AllReadyH.nil
                          go_simp
                          (go_at_call 85; refine (plus_any xac true xcb (by omega) (by omega) (by omega) (by omega) _).mono ?_; rintro e w2 ⟨rfl, hb2⟩; have hbC : Below wr.heap.size wr w2 := (Below.refl _ wr).drew.trans hb2)
                          (try go_wp2_with fail)
                          refine hK.out _ _ (HSB.out _ hbC) (fun hHeld => ?_)
                          clear hK
                          (try simp only [Act.put, List.setIfInBounds_toArray, List.set_cons_zero, List.set_cons_succ])
                          refine wpAnyH_ready (rs := [28]) (by kernel_rfl) (by simp) ?_
                          refine AllReadyH.cons rfl (fun K hK => ?_) AllReadyH.nil
                          go_simp
                          (go_at_call 84; refine (HLES.out _).mono ?_; rintro e w3 ⟨rfl, hb3⟩; have hbD : Below wr.heap.size wr w3 := hbC.trans (hb3.mono hbC.size); have m2 := HM.out.below hbD; have f0 := m2.frozen hal (kb * 2); have f1 := m2.frozen hal (kb * 2 + 1); obtain ⟨r5, r6⟩ := m2.cells hal hbl; clear m2)
                          (try go_wp2_with fail)
                          refine hK.out _ _ (HSB.out _ hbD) (fun hHeld => ?_)
                          clear hK
                          (try simp only [Act.put, List.setIfInBounds_toArray, List.set_cons_zero, List.set_cons_succ])
                          refine wpAnyH_take (i := 29) (v := ?_) rfl (by kernel_rfl) (by kernel_rfl) (by kernel_rfl) (fun _ _ _ h => h) (Or.inl ⟨by rfl, ?_⟩) (by assumption) ?_
                          rotate_left
                          · (intro w hSw; (try dsimp only at hSw); go_simp <;> with_reducible rfl)
                          (try simp only [Act.put, List.setIfInBounds_toArray, List.set_cons_zero, List.set_cons_succ])
                          refine wpAnyH_done (by kernel_rfl) ?_ _
                          simp only [QLast]
                          all_goals
                            go_wp2_with fail
                            go_roundw
                            case rel =>
                              have m9 := (HM.out.below hbD).set HAP.out hal hbl u.1 u.2
                              rw [show Ln.up D ka kb (u.1, u.2) = Ln.fwB kc ka (Ln.fwA k kc (Ln.fwC k E kc) ka) (kb + 1) from HST.out.symm] at m9
                              exact ⟨kb + 1, by omega, by go_num, (((k1.below hbD k1.lt).far (by simp; omega) _).far (by simp; omega) _), m9, ((HB.out.trans (hbD.mono (Nat.le_of_lt hs1))).setCell (by simp; omega) _).setCell (by simp; omega) _⟩
                            case measure => simp [intOf]; omega
                    · obtain rfl : kb = k := by omega
                      go_wp2_with fail
                      go_roundw
                      case rel => exact ⟨ka + 1, by omega, by go_num, k1, by rw [Ln.fwA_succ]; exact hM, hB⟩
                      case measure => simp [intOf]; omega
                · obtain rfl : ka = k := by omega
                  go_wp2_with fail
                  go_roundw
                  case rel => exact ⟨kc + 1, by omega, by go_num, k1, by rw [Ln.fwC_succ]; exact hM, hB⟩
                  case measure => simp [intOf]; omega
            · obtain rfl : kc = k := by omega
              go_wp2_with fail
              go_ret
              exact ⟨G, blk, rfl, by rw [HMT.out]; exact hM, HAP.out, by omega, by rw [hsb]; exact hB⟩

end Go.Proofs.Ytdndhfggdjphjaa
