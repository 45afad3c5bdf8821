/-
  sample and with.
-/
import Derived.Test.YteiaofgkmgllcaaConcat
import Derived.Test.YteiaofgkmgllcaaSettle
import Derived.Test.YteiaofgkmgllcaaPoss
import Derived.Test.YteiaofgkmgllcaaSamp
import Derived.Deep.RegionHeld
set_option linter.unusedVariables false
set_option linter.unusedSimpArgs false
namespace Go.Proofs.Yteiaofgkmgllcaa
open Go.RowKit Go.Shelf

set_option maxRecDepth 100000 in
set_option maxHeartbeats 1000000 in
theorem sample_any (w : World) :
    Calls Try.prog 26 #[] w fun e w' => ∃ g c, e = .returned (.agg #[.int .i64 4, .slice (some ⟨g, 0, none⟩) Ln.smp.length c]) ∧ Rd w' w'.heap.size 4 (some ⟨g, 0, none⟩) Ln.smp.length (bcells Ln.smp) ∧ Below w.heap.size w w' := by
  have k0 := Bk.new w 24 #[.int .i64 0, .slice none 0 0]
  go_enter Try.func26, Try.ntmps26
  go_wp2_with fail
  have k5 := (Bk.new w 24 #[.int .i64 4, .slice (some ⟨w.heap.size + 1, 0, none⟩) 5 5]).alloc (.cells #[.int .i64 0, .int .i64 1, .int .i64 5, .int .i64 1, .int .i64 1, .int .i64 0, .int .i64 (-2), .int .i64 2, .int .i64 1, .int .i64 2, .int .i64 3, .int .i64 3, .int .i64 2, .int .i64 1, .int .i64 (-1), .int .i64 3, .int .i64 0, .int .i64 2, .int .i64 9, .int .i64 4] 50)
  have kb := Bk.new (w.alloc (.cells #[.int .i64 4, .slice (some ⟨w.heap.size + 1, 0, none⟩) 5 5] 24)) 50 #[.int .i64 0, .int .i64 1, .int .i64 5, .int .i64 1, .int .i64 1, .int .i64 0, .int .i64 (-2), .int .i64 2, .int .i64 1, .int .i64 2, .int .i64 3, .int .i64 3, .int .i64 2, .int .i64 1, .int .i64 (-1), .int .i64 3, .int .i64 0, .int .i64 2, .int .i64 9, .int .i64 4]
  rw [World.size_alloc] at kb
  refine bodyPost_ret (v := .agg #[.int .i64 4, .slice (some ⟨w.heap.size + 1, 0, none⟩) 5 5]) (results_cell_row rfl _ _ w.heap.size 24 _ (0, 0) _ rfl k5 Try.underlying24 rfl (by kernel_rfl)) rfl ⟨w.heap.size + 1, 5, rfl, ⟨rfl, fun _ => ⟨w.heap.size + 1, 0, rfl, kb.lt, fun j hj => ?_⟩⟩, ((Below.refl _ _).alloc (Nat.le_refl _) _).alloc (by simp) _⟩
  rw [Nat.zero_add, kb.cell j, show bcells Ln.smp = [.int .i64 0, .int .i64 1, .int .i64 5, .int .i64 1, .int .i64 1, .int .i64 0, .int .i64 (-2), .int .i64 2, .int .i64 1, .int .i64 2, .int .i64 3, .int .i64 3, .int .i64 2, .int .i64 1, .int .i64 (-1), .int .i64 3, .int .i64 0, .int .i64 2, .int .i64 9, .int .i64 4] from rfl]
  simp

theorem with_end {w V : World} {base g cap : Nat} {N : Int} {bs : List Ln.Bd} {x : Ln.Bd} (h : V.ownsRow base 50 4 (.slice (some ⟨g, 0, none⟩) (bs.length + 1) cap) (bs.length + 1) (bcells bs ++ [.int .i64 x.f, .int .i64 x.t, .int .i64 x.m, .int .i64 x.r])) (hB : Below w.heap.size w V) :
    ∃ A' c', Ending.returned (.agg #[.int .i64 N, .slice (some ⟨g, 0, none⟩) (bs.length + 1) cap]) = .returned (.agg #[.int .i64 N, .slice A' (bs ++ [x]).length c']) ∧ Rd V V.heap.size 4 A' (bs ++ [x]).length (bcells (bs ++ [x])) ∧ Below w.heap.size w V := by
  have hl : (bs ++ [x]).length = bs.length + 1 := by simp
  have hc : bcells (bs ++ [x]) = bcells bs ++ [.int .i64 x.f, .int .i64 x.t, .int .i64 x.m, .int .i64 x.r] := by rw [bcells_append]; rfl
  rw [hl, hc]
  obtain ⟨A', c', e, hrd, _⟩ := ownB_rd h h.1
  cases e
  exact ⟨_, _, rfl, hrd, hB⟩

set_option maxRecDepth 100000 in
set_option maxHeartbeats 4000000 in
theorem with_any (N : Int) (A : Option Addr) (c : Nat) (bs : List Ln.Bd) (x : Ln.Bd) (w : World) (hR : Rd w w.heap.size 4 A bs.length (bcells bs)) (hpos : 0 < bs.length) (hl : bs.length ≤ 100000) :
    Calls Try.prog 31 #[.agg #[.int .i64 N, .slice A bs.length c], .agg #[.int .i64 x.f, .int .i64 x.t, .int .i64 x.m, .int .i64 x.r]] w fun e w' => ∃ A' c', e = .returned (.agg #[.int .i64 N, .slice A' (bs ++ [x]).length c']) ∧ Rd w' w'.heap.size 4 A' (bs ++ [x]).length (bcells (bs ++ [x])) ∧ Below w.heap.size w w' := by
  go_enter Try.func31, Try.ntmps31
  go_wp2_with fail
  have kS := ((Bk.new w 24 #[.int .i64 N, .slice A bs.length c]).alloc (.cells #[.int .i64 x.f, .int .i64 x.t, .int .i64 x.m, .int .i64 x.r] 50)).alloc (.cells #[.int .i64 0, .slice none 0 0] 24)
  have kX := (Bk.new (w.alloc (.cells #[.int .i64 N, .slice A bs.length c] 24)) 50 #[.int .i64 x.f, .int .i64 x.t, .int .i64 x.m, .int .i64 x.r]).alloc (.cells #[.int .i64 0, .slice none 0 0] 24)
  have kT := Bk.new ((w.alloc (.cells #[.int .i64 N, .slice A bs.length c] 24)).alloc (.cells #[.int .i64 x.f, .int .i64 x.t, .int .i64 x.m, .int .i64 x.r] 50)) 24 #[.int .i64 0, .slice none 0 0]
  have hB3 : Below w.heap.size w (((w.alloc (.cells #[.int .i64 N, .slice A bs.length c] 24)).alloc (.cells #[.int .i64 x.f, .int .i64 x.t, .int .i64 x.m, .int .i64 x.r] 50)).alloc (.cells #[.int .i64 0, .slice none 0 0] 24)) := (((Below.refl _ _).alloc (Nat.le_refl _) _).alloc (by simp) _).alloc (by simp; omega) _
  simp only [World.size_alloc] at kX kT
  obtain ⟨W3, hW3⟩ : ∃ W3, ((w.alloc (.cells #[.int .i64 N, .slice A bs.length c] 24)).alloc (.cells #[.int .i64 x.f, .int .i64 x.t, .int .i64 x.m, .int .i64 x.r] 50)).alloc (.cells #[.int .i64 0, .slice none 0 0] 24) = W3 := ⟨_, rfl⟩
  rw [hW3] at kS kX kT hB3 ⊢
  clear hW3
  obtain ⟨b, off, rfl, hb, hcell⟩ := hR.2 hpos
  have s0 := kS.cell 0
  have s1 := kS.cell 1
  have x0 := kX.cell 0
  have x1 := kX.cell 1
  have x2 := kX.cell 2
  have x3 := kX.cell 3
  simp only [List.getElem?_toArray, List.getElem?_cons_zero, List.getElem?_cons_succ] at s0 s1 x0 x1 x2 x3
  have hl0 := kS.lt
  have hl1 := kX.lt
  have hl2 := kT.lt
  obtain ⟨i0, hi0, hz0, hz1, hz2⟩ := info_parts info69'
  have hnw : ∀ V, Below W3.heap.size W3 V → ∀ j u, (bcells bs)[j]? = some u → V.cell? ((⟨b, off, none⟩ : Addr).add j) = some u := fun V hV j u hj => by
    have hjl : j < (bcells bs).length := (List.getElem?_eq_some_iff.1 hj).1
    rw [bcells_length] at hjl
    rw [show (⟨b, off, none⟩ : Addr).add j = ⟨b, off + j, none⟩ from by unfold Addr.add; split <;> simp_all, ((hB3.trans (hV.mono hB3.size)).cell (p := ⟨b, off + j, none⟩) hb).trans (hcell j hjl), hj]
  have hSV : KeepX W3.heap.size (fun j => j = w.heap.size + 1 + 1) W3 W3.drew := (KeepX.refl _ _ _).drew
  refine wp_region_held_drew (S := fun V => KeepX W3.heap.size (fun j => j = w.heap.size + 1 + 1) W3 V) (by kernel_rfl) hSV (fun _ => ?_)
  (refine wpAnyH_take (i := 0) (v := ?_) rfl (by kernel_rfl) (by kernel_rfl) (by kernel_rfl) (fun _ _ _ h => h) (Or.inl ⟨by rfl, ?_⟩) hSV ?_; rotate_left 1; focus (intro V hSw; have s0' := (World.cell?_of_block (hSw.block w.heap.size hl0 (by omega))).trans s0; have s1' := (World.cell?_of_block (hSw.block w.heap.size hl0 (by omega))).trans s1; have x0' := (World.cell?_of_block (hSw.block (w.heap.size + 1) hl1 (by omega))).trans x0; have x1' := (World.cell?_of_block (hSw.block (w.heap.size + 1) hl1 (by omega))).trans x1; have x2' := (World.cell?_of_block (hSw.block (w.heap.size + 1) hl1 (by omega))).trans x2; have x3' := (World.cell?_of_block (hSw.block (w.heap.size + 1) hl1 (by omega))).trans x3; clear hSw; go_simp; all_goals (with_reducible rfl)); (try simp only [Act.put, List.setIfInBounds_toArray, List.set_cons_zero, List.set_cons_succ]))
  (refine wpAnyH_take (i := 1) (v := ?_) rfl (by kernel_rfl) (by kernel_rfl) (by kernel_rfl) (fun _ _ _ h => h) (Or.inl ⟨by rfl, ?_⟩) hSV ?_; rotate_left 1; focus (intro V hSw; have s0' := (World.cell?_of_block (hSw.block w.heap.size hl0 (by omega))).trans s0; have s1' := (World.cell?_of_block (hSw.block w.heap.size hl0 (by omega))).trans s1; have x0' := (World.cell?_of_block (hSw.block (w.heap.size + 1) hl1 (by omega))).trans x0; have x1' := (World.cell?_of_block (hSw.block (w.heap.size + 1) hl1 (by omega))).trans x1; have x2' := (World.cell?_of_block (hSw.block (w.heap.size + 1) hl1 (by omega))).trans x2; have x3' := (World.cell?_of_block (hSw.block (w.heap.size + 1) hl1 (by omega))).trans x3; clear hSw; go_simp; all_goals (with_reducible rfl)); (try simp only [Act.put, List.setIfInBounds_toArray, List.set_cons_zero, List.set_cons_succ]))
  (refine wpAnyH_take (i := 3) (v := ?_) rfl (by kernel_rfl) (by kernel_rfl) (by kernel_rfl) (fun _ _ _ h => h) (Or.inl ⟨by rfl, ?_⟩) hSV ?_; rotate_left 1; focus (intro V hSw; have s0' := (World.cell?_of_block (hSw.block w.heap.size hl0 (by omega))).trans s0; have s1' := (World.cell?_of_block (hSw.block w.heap.size hl0 (by omega))).trans s1; have x0' := (World.cell?_of_block (hSw.block (w.heap.size + 1) hl1 (by omega))).trans x0; have x1' := (World.cell?_of_block (hSw.block (w.heap.size + 1) hl1 (by omega))).trans x1; have x2' := (World.cell?_of_block (hSw.block (w.heap.size + 1) hl1 (by omega))).trans x2; have x3' := (World.cell?_of_block (hSw.block (w.heap.size + 1) hl1 (by omega))).trans x3; clear hSw; go_simp; all_goals (with_reducible rfl)); (try simp only [Act.put, List.setIfInBounds_toArray, List.set_cons_zero, List.set_cons_succ]))
  (refine wpAnyH_take (i := 4) (v := ?_) rfl (by kernel_rfl) (by kernel_rfl) (by kernel_rfl) (fun _ _ _ h => h) (Or.inl ⟨by rfl, ?_⟩) hSV ?_; rotate_left 1; focus (intro V hSw; have s0' := (World.cell?_of_block (hSw.block w.heap.size hl0 (by omega))).trans s0; have s1' := (World.cell?_of_block (hSw.block w.heap.size hl0 (by omega))).trans s1; have x0' := (World.cell?_of_block (hSw.block (w.heap.size + 1) hl1 (by omega))).trans x0; have x1' := (World.cell?_of_block (hSw.block (w.heap.size + 1) hl1 (by omega))).trans x1; have x2' := (World.cell?_of_block (hSw.block (w.heap.size + 1) hl1 (by omega))).trans x2; have x3' := (World.cell?_of_block (hSw.block (w.heap.size + 1) hl1 (by omega))).trans x3; clear hSw; go_simp; all_goals (with_reducible rfl)); (try simp only [Act.put, List.setIfInBounds_toArray, List.set_cons_zero, List.set_cons_succ]))
  (refine wpAnyH_take (i := 6) (v := ?_) rfl (by kernel_rfl) (by kernel_rfl) (by kernel_rfl) (fun _ _ _ h => h) (Or.inl ⟨by rfl, ?_⟩) hSV ?_; rotate_left 1; focus (intro V hSw; have s0' := (World.cell?_of_block (hSw.block w.heap.size hl0 (by omega))).trans s0; have s1' := (World.cell?_of_block (hSw.block w.heap.size hl0 (by omega))).trans s1; have x0' := (World.cell?_of_block (hSw.block (w.heap.size + 1) hl1 (by omega))).trans x0; have x1' := (World.cell?_of_block (hSw.block (w.heap.size + 1) hl1 (by omega))).trans x1; have x2' := (World.cell?_of_block (hSw.block (w.heap.size + 1) hl1 (by omega))).trans x2; have x3' := (World.cell?_of_block (hSw.block (w.heap.size + 1) hl1 (by omega))).trans x3; clear hSw; go_simp; all_goals (with_reducible rfl)); (try simp only [Act.put, List.setIfInBounds_toArray, List.set_cons_zero, List.set_cons_succ]))
  refine wpAnyH_ready (rs := [2, 7]) (by kernel_rfl) (by simp) ?_
  refine AllReadyH.cons rfl (fun K hK => ?_) (AllReadyH.cons rfl (fun K hK => ?_) AllReadyH.nil)
  · rw [if_pos (by rfl)]
    go_simp
    have hV1 : Below W3.heap.size W3 (W3.alloc (.cells #[] 50)).drew := ((Below.refl _ W3).alloc (Nat.le_refl _) _).drew
    have o7 : (W3.alloc (.cells #[] 50)).drew.ownsRow W3.heap.size 50 4 (.slice (some ⟨W3.heap.size, 0, none⟩) 0 0) 0 [] := (World.ownsRow_lit (base := W3.heap.size) (e := 50) (size := 4) W3 #[] 0 (Nat.le_refl _) (by decide) rfl).drew
    obtain ⟨V1, hV1e⟩ : ∃ V1, (W3.alloc (.cells #[] 50)).drew = V1 := ⟨_, rfl⟩
    obtain ⟨G7, hG7⟩ : ∃ G7, W3.heap.size = G7 := ⟨_, rfl⟩
    rw [hV1e] at hV1 o7 ⊢
    rw [show (.slice (some ⟨W3.heap.size, 0, none⟩) 0 0 : Value) = .slice (some ⟨G7, 0, none⟩) 0 0 from by rw [hG7]] at o7 ⊢
    have hlt7 : G7 < V1.heap.size := (o7.lt G7 rfl).2
    refine hK.out _ _ (KeepX.of_below hV1 _) (fun _ => ?_)
    clear hK K
    (try simp only [Act.put, List.setIfInBounds_toArray, List.set_cons_zero, List.set_cons_succ])
    refine wpAnyH_ready (rs := [5, 7]) (by kernel_rfl) (by simp) ?_
    refine AllReadyH.cons rfl (fun K hK => ?_) (AllReadyH.cons rfl (fun K hK => ?_) AllReadyH.nil)
    · refine step_append_lies _ (by rfl) _ _ _ (by rfl) W3.heap.size 50 i0 _ 4 32 Try.underlying22 hi0 hz0 hz1 hz2 rfl (by omega) (.slice (some ⟨G7, 0, none⟩) 0 0) 0 [] (by rfl) o7 ⟨b, off, none⟩ bs.length c (bcells bs) (by rfl) (bcells_length bs) (hnw _ hV1) (bcells_one bs) hpos (by unfold maxLen; omega) (by omega) hV1.size _ rfl ?_
      intro g10 cap10 V2 hown10 hgrow10 hat10 hlt10
      simp only [Nat.zero_add, List.nil_append] at hown10 ⊢
      have hV2 := hV1.grown hgrow10 hV1.size (fun j e => (o7.lt j e).1)
      refine hK.out _ _ (KeepX.of_below hV2 _) (fun _ => ?_)
      clear hK K
      (try simp only [Act.put, List.setIfInBounds_toArray, List.set_cons_zero, List.set_cons_succ])
      refine wpAnyH_ready (rs := [7]) (by kernel_rfl) (by simp) ?_
      refine AllReadyH.cons rfl (fun K hK => ?_) AllReadyH.nil
      rw [if_pos (by rfl)]
      go_simp
      have hV3 := hV2.alloc hV2.size (.cells #[.int .i64 x.f, .int .i64 x.t, .int .i64 x.m, .int .i64 x.r] 50)
      refine hK.out _ _ (KeepX.of_below hV3 _) (fun _ => ?_)
      clear hK K
      (try simp only [Act.put, List.setIfInBounds_toArray, List.set_cons_zero, List.set_cons_succ])
      refine wpAnyH_ready (rs := [8]) (by kernel_rfl) (by simp) ?_
      refine AllReadyH.cons rfl (fun K hK => ?_) AllReadyH.nil
      refine step_append_lies _ (by rfl) _ _ _ (by rfl) W3.heap.size 50 i0 _ 4 32 Try.underlying22 hi0 hz0 hz1 hz2 rfl (by omega) (.slice (some ⟨g10, 0, none⟩) bs.length cap10) bs.length (bcells bs) (by rfl) (hown10.alloc (.cells #[.int .i64 x.f, .int .i64 x.t, .int .i64 x.m, .int .i64 x.r] 50)) ⟨V2.heap.size, 0, none⟩ 1 1 [.int .i64 x.f, .int .i64 x.t, .int .i64 x.m, .int .i64 x.r] (by rfl) rfl (World.news_of_block (cs := #[.int .i64 x.f, .int .i64 x.t, .int .i64 x.m, .int .i64 x.r]) (t := 50) (fr := (0, 0)) (heap_alloc_new V2 _)) (by simp [Value.oneCell']) (by omega) (by unfold maxLen; omega) (by omega) hV3.size _ rfl ?_
      intro g13 cap13 V9 hown13 hgrow13 hat13 hlt13
      have hV9 := hV3.grown hgrow13 hV3.size (fun j e => (((hown10.alloc (.cells #[.int .i64 x.f, .int .i64 x.t, .int .i64 x.m, .int .i64 x.r] 50))).lt j e).1)
      refine hK.out _ _ (KeepX.of_below hV9 _) (fun _ => ?_)
      clear hK K
      (try simp only [Act.put, List.setIfInBounds_toArray, List.set_cons_zero, List.set_cons_succ])
      (refine wpAnyH_take (i := 9) (v := ?_) rfl (by kernel_rfl) (by kernel_rfl) (by kernel_rfl) (fun _ _ _ h => h) (Or.inl ⟨by rfl, ?_⟩) (KeepX.of_below hV9 _) ?_; rotate_left 1; focus (intro V hSw; have s0' := (World.cell?_of_block (hSw.block w.heap.size hl0 (by omega))).trans s0; have s1' := (World.cell?_of_block (hSw.block w.heap.size hl0 (by omega))).trans s1; have x0' := (World.cell?_of_block (hSw.block (w.heap.size + 1) hl1 (by omega))).trans x0; have x1' := (World.cell?_of_block (hSw.block (w.heap.size + 1) hl1 (by omega))).trans x1; have x2' := (World.cell?_of_block (hSw.block (w.heap.size + 1) hl1 (by omega))).trans x2; have x3' := (World.cell?_of_block (hSw.block (w.heap.size + 1) hl1 (by omega))).trans x3; clear hSw; go_simp; all_goals (with_reducible rfl)); (try simp only [Act.put, List.setIfInBounds_toArray, List.set_cons_zero, List.set_cons_succ]))
      refine wpAnyH_ready (rs := [10]) (by kernel_rfl) (by simp) ?_
      refine AllReadyH.cons rfl (fun K hK => ?_) AllReadyH.nil
      rw [if_pos (by rfl)]
      have kT9 := kT.below hV9 hl2
      have d0 := kT9.cell 0
      have d1 := kT9.cell 1
      have f0 := kT9.frozen 0
      have f1 := kT9.frozen 1
      simp only [List.getElem?_toArray, List.getElem?_cons_zero, List.getElem?_cons_succ] at d0 d1
      go_simp
      refine hK.out _ _ (((KeepX.of_below hV9 (fun j => j = w.heap.size + 1 + 1)).setCell (p := ⟨w.heap.size + 1 + 1, 0, none⟩) (fun _ => rfl) _).setCell (p := ⟨w.heap.size + 1 + 1, 1, none⟩) (fun _ => rfl) _) (fun _ => ?_)
      clear hK K
      refine wpAnyH_done (by kernel_rfl) ?_ _
      (try simp only [Act.put, List.setIfInBounds_toArray, List.set_cons_zero, List.set_cons_succ])
      have k9 := (kT9.set 0 (.int .i64 N)).set 1 (.slice (some ⟨g13, 0, none⟩) (bs.length + 1) cap13)
      have hB9 := ((hB3.trans (hV9.mono hB3.size)).setCell (p := ⟨w.heap.size + 1 + 1, 0, none⟩) (by simp; omega) (.int .i64 N)).setCell (p := ⟨w.heap.size + 1 + 1, 1, none⟩) (by simp; omega) (.slice (some ⟨g13, 0, none⟩) (bs.length + 1) cap13)
      have hown9 := (hown13.kept (grown_setCell V9 ⟨w.heap.size + 1 + 1, 0, none⟩ (.int .i64 N)) (own_offN hown13 hl2)).kept (grown_setCell _ ⟨w.heap.size + 1 + 1, 1, none⟩ (.slice (some ⟨g13, 0, none⟩) (bs.length + 1) cap13)) (own_offN hown13 hl2)
      go_wp2_with fail
      refine bodyPost_ret (v := .agg #[.int .i64 N, .slice (some ⟨g13, 0, none⟩) (bs.length + 1) cap13]) (results_cell_row rfl _ _ (w.heap.size + 1 + 1) 24 _ (0, 0) _ rfl k9 Try.underlying24 rfl (by kernel_rfl)) rfl (by obtain ⟨A', c', h1, h2, h3⟩ := with_end (N := N) hown9 hB9; first | exact ⟨A', c', h1, h2, h3⟩ | exact ⟨A', ⟨c', by simpa using h1⟩, by simpa using h2, h3⟩)
    · rw [if_pos (by rfl)]
      go_simp
      have hV2 := hV1.alloc hV1.size (.cells #[.int .i64 x.f, .int .i64 x.t, .int .i64 x.m, .int .i64 x.r] 50)
      have kx2 := Bk.new V1 50 #[.int .i64 x.f, .int .i64 x.t, .int .i64 x.m, .int .i64 x.r]
      have o72 := o7.alloc (.cells #[.int .i64 x.f, .int .i64 x.t, .int .i64 x.m, .int .i64 x.r] 50)
      refine hK.out _ _ (KeepX.of_below hV2 _) (fun _ => ?_)
      clear hK K
      (try simp only [Act.put, List.setIfInBounds_toArray, List.set_cons_zero, List.set_cons_succ])
      refine wpAnyH_ready (rs := [5]) (by kernel_rfl) (by simp) ?_
      refine AllReadyH.cons rfl (fun K hK => ?_) AllReadyH.nil
      refine step_append_lies _ (by rfl) _ _ _ (by rfl) W3.heap.size 50 i0 _ 4 32 Try.underlying22 hi0 hz0 hz1 hz2 rfl (by omega) (.slice (some ⟨G7, 0, none⟩) 0 0) 0 [] (by rfl) o72 ⟨b, off, none⟩ bs.length c (bcells bs) (by rfl) (bcells_length bs) (hnw _ hV2) (bcells_one bs) hpos (by unfold maxLen; omega) (by omega) hV2.size _ rfl ?_
      intro g10 cap10 V3 hown10 hgrow10 hat10 hlt10
      simp only [Nat.zero_add, List.nil_append] at hown10 ⊢
      have hV3 := hV2.grown hgrow10 hV2.size (fun j e => (o72.lt j e).1)
      have kx3 := kx2.grown hgrow10 (fun e => by simp [Value.ownBlock] at e; have := hlt7; omega)
      refine hK.out _ _ (KeepX.of_below hV3 _) (fun _ => ?_)
      clear hK K
      (try simp only [Act.put, List.setIfInBounds_toArray, List.set_cons_zero, List.set_cons_succ])
      refine wpAnyH_ready (rs := [8]) (by kernel_rfl) (by simp) ?_
      refine AllReadyH.cons rfl (fun K hK => ?_) AllReadyH.nil
      refine step_append_lies _ (by rfl) _ _ _ (by rfl) W3.heap.size 50 i0 _ 4 32 Try.underlying22 hi0 hz0 hz1 hz2 rfl (by omega) (.slice (some ⟨g10, 0, none⟩) bs.length cap10) bs.length (bcells bs) (by rfl) hown10 ⟨V1.heap.size, 0, none⟩ 1 1 [.int .i64 x.f, .int .i64 x.t, .int .i64 x.m, .int .i64 x.r] (by rfl) rfl (World.news_of_block (cs := #[.int .i64 x.f, .int .i64 x.t, .int .i64 x.m, .int .i64 x.r]) (t := 50) (fr := (0, 0)) kx3) (by simp [Value.oneCell']) (by omega) (by unfold maxLen; omega) (by omega) hV3.size _ rfl ?_
      intro g13 cap13 V9 hown13 hgrow13 hat13 hlt13
      have hV9 := hV3.grown hgrow13 hV3.size (fun j e => ((hown10).lt j e).1)
      refine hK.out _ _ (KeepX.of_below hV9 _) (fun _ => ?_)
      clear hK K
      (try simp only [Act.put, List.setIfInBounds_toArray, List.set_cons_zero, List.set_cons_succ])
      (refine wpAnyH_take (i := 9) (v := ?_) rfl (by kernel_rfl) (by kernel_rfl) (by kernel_rfl) (fun _ _ _ h => h) (Or.inl ⟨by rfl, ?_⟩) (KeepX.of_below hV9 _) ?_; rotate_left 1; focus (intro V hSw; have s0' := (World.cell?_of_block (hSw.block w.heap.size hl0 (by omega))).trans s0; have s1' := (World.cell?_of_block (hSw.block w.heap.size hl0 (by omega))).trans s1; have x0' := (World.cell?_of_block (hSw.block (w.heap.size + 1) hl1 (by omega))).trans x0; have x1' := (World.cell?_of_block (hSw.block (w.heap.size + 1) hl1 (by omega))).trans x1; have x2' := (World.cell?_of_block (hSw.block (w.heap.size + 1) hl1 (by omega))).trans x2; have x3' := (World.cell?_of_block (hSw.block (w.heap.size + 1) hl1 (by omega))).trans x3; clear hSw; go_simp; all_goals (with_reducible rfl)); (try simp only [Act.put, List.setIfInBounds_toArray, List.set_cons_zero, List.set_cons_succ]))
      refine wpAnyH_ready (rs := [10]) (by kernel_rfl) (by simp) ?_
      refine AllReadyH.cons rfl (fun K hK => ?_) AllReadyH.nil
      rw [if_pos (by rfl)]
      have kT9 := kT.below hV9 hl2
      have d0 := kT9.cell 0
      have d1 := kT9.cell 1
      have f0 := kT9.frozen 0
      have f1 := kT9.frozen 1
      simp only [List.getElem?_toArray, List.getElem?_cons_zero, List.getElem?_cons_succ] at d0 d1
      go_simp
      refine hK.out _ _ (((KeepX.of_below hV9 (fun j => j = w.heap.size + 1 + 1)).setCell (p := ⟨w.heap.size + 1 + 1, 0, none⟩) (fun _ => rfl) _).setCell (p := ⟨w.heap.size + 1 + 1, 1, none⟩) (fun _ => rfl) _) (fun _ => ?_)
      clear hK K
      refine wpAnyH_done (by kernel_rfl) ?_ _
      (try simp only [Act.put, List.setIfInBounds_toArray, List.set_cons_zero, List.set_cons_succ])
      have k9 := (kT9.set 0 (.int .i64 N)).set 1 (.slice (some ⟨g13, 0, none⟩) (bs.length + 1) cap13)
      have hB9 := ((hB3.trans (hV9.mono hB3.size)).setCell (p := ⟨w.heap.size + 1 + 1, 0, none⟩) (by simp; omega) (.int .i64 N)).setCell (p := ⟨w.heap.size + 1 + 1, 1, none⟩) (by simp; omega) (.slice (some ⟨g13, 0, none⟩) (bs.length + 1) cap13)
      have hown9 := (hown13.kept (grown_setCell V9 ⟨w.heap.size + 1 + 1, 0, none⟩ (.int .i64 N)) (own_offN hown13 hl2)).kept (grown_setCell _ ⟨w.heap.size + 1 + 1, 1, none⟩ (.slice (some ⟨g13, 0, none⟩) (bs.length + 1) cap13)) (own_offN hown13 hl2)
      go_wp2_with fail
      refine bodyPost_ret (v := .agg #[.int .i64 N, .slice (some ⟨g13, 0, none⟩) (bs.length + 1) cap13]) (results_cell_row rfl _ _ (w.heap.size + 1 + 1) 24 _ (0, 0) _ rfl k9 Try.underlying24 rfl (by kernel_rfl)) rfl (by obtain ⟨A', c', h1, h2, h3⟩ := with_end (N := N) hown9 hB9; first | exact ⟨A', c', h1, h2, h3⟩ | exact ⟨A', ⟨c', by simpa using h1⟩, by simpa using h2, h3⟩)
  · rw [if_pos (by rfl)]
    go_simp
    have hV1 : Below W3.heap.size W3 (W3.alloc (.cells #[.int .i64 x.f, .int .i64 x.t, .int .i64 x.m, .int .i64 x.r] 50)).drew := ((Below.refl _ W3).alloc (Nat.le_refl _) _).drew
    have kx1 : Bk (W3.alloc (.cells #[.int .i64 x.f, .int .i64 x.t, .int .i64 x.m, .int .i64 x.r] 50)).drew W3.heap.size 50 #[.int .i64 x.f, .int .i64 x.t, .int .i64 x.m, .int .i64 x.r] := Bk.new W3 _ _
    obtain ⟨V1, hV1e⟩ : ∃ V1, (W3.alloc (.cells #[.int .i64 x.f, .int .i64 x.t, .int .i64 x.m, .int .i64 x.r] 50)).drew = V1 := ⟨_, rfl⟩
    rw [hV1e] at hV1 kx1 ⊢
    refine hK.out _ _ (KeepX.of_below hV1 _) (fun _ => ?_)
    clear hK K
    (try simp only [Act.put, List.setIfInBounds_toArray, List.set_cons_zero, List.set_cons_succ])
    refine wpAnyH_ready (rs := [2]) (by kernel_rfl) (by simp) ?_
    refine AllReadyH.cons rfl (fun K hK => ?_) AllReadyH.nil
    rw [if_pos (by rfl)]
    go_simp
    have hV2 := hV1.alloc hV1.size (.cells #[] 50)
    have kx2 := kx1.alloc (.cells #[] 50)
    have o7 := World.ownsRow_lit (base := W3.heap.size) (e := 50) (size := 4) V1 #[] 0 hV1.size (by decide) rfl
    obtain ⟨G7, hG7⟩ : ∃ G7, V1.heap.size = G7 := ⟨_, rfl⟩
    rw [hG7] at o7
    have hlt7 := kx1.lt
    refine hK.out _ _ (KeepX.of_below hV2 _) (fun _ => ?_)
    clear hK K
    (try simp only [Act.put, List.setIfInBounds_toArray, List.set_cons_zero, List.set_cons_succ])
    rw [hG7]
    refine wpAnyH_ready (rs := [5]) (by kernel_rfl) (by simp) ?_
    refine AllReadyH.cons rfl (fun K hK => ?_) AllReadyH.nil
    refine step_append_lies _ (by rfl) _ _ _ (by rfl) W3.heap.size 50 i0 _ 4 32 Try.underlying22 hi0 hz0 hz1 hz2 rfl (by omega) (.slice (some ⟨G7, 0, none⟩) 0 0) 0 [] (by rfl) o7 ⟨b, off, none⟩ bs.length c (bcells bs) (by rfl) (bcells_length bs) (hnw _ hV2) (bcells_one bs) hpos (by unfold maxLen; omega) (by omega) hV2.size _ rfl ?_
    intro g10 cap10 V3 hown10 hgrow10 hat10 hlt10
    simp only [Nat.zero_add, List.nil_append] at hown10 ⊢
    have hV3 := hV2.grown hgrow10 hV2.size (fun j e => (o7.lt j e).1)
    have kx3 := kx2.grown hgrow10 (fun e => by simp [Value.ownBlock] at e; have := hlt7; omega)
    refine hK.out _ _ (KeepX.of_below hV3 _) (fun _ => ?_)
    clear hK K
    (try simp only [Act.put, List.setIfInBounds_toArray, List.set_cons_zero, List.set_cons_succ])
    refine wpAnyH_ready (rs := [8]) (by kernel_rfl) (by simp) ?_
    refine AllReadyH.cons rfl (fun K hK => ?_) AllReadyH.nil
    refine step_append_lies _ (by rfl) _ _ _ (by rfl) W3.heap.size 50 i0 _ 4 32 Try.underlying22 hi0 hz0 hz1 hz2 rfl (by omega) (.slice (some ⟨g10, 0, none⟩) bs.length cap10) bs.length (bcells bs) (by rfl) hown10 ⟨W3.heap.size, 0, none⟩ 1 1 [.int .i64 x.f, .int .i64 x.t, .int .i64 x.m, .int .i64 x.r] (by rfl) rfl (World.news_of_block (cs := #[.int .i64 x.f, .int .i64 x.t, .int .i64 x.m, .int .i64 x.r]) (t := 50) (fr := (0, 0)) kx3) (by simp [Value.oneCell']) (by omega) (by unfold maxLen; omega) (by omega) hV3.size _ rfl ?_
    intro g13 cap13 V9 hown13 hgrow13 hat13 hlt13
    have hV9 := hV3.grown hgrow13 hV3.size (fun j e => ((hown10).lt j e).1)
    refine hK.out _ _ (KeepX.of_below hV9 _) (fun _ => ?_)
    clear hK K
    (try simp only [Act.put, List.setIfInBounds_toArray, List.set_cons_zero, List.set_cons_succ])
    (refine wpAnyH_take (i := 9) (v := ?_) rfl (by kernel_rfl) (by kernel_rfl) (by kernel_rfl) (fun _ _ _ h => h) (Or.inl ⟨by rfl, ?_⟩) (KeepX.of_below hV9 _) ?_; rotate_left 1; focus (intro V hSw; have s0' := (World.cell?_of_block (hSw.block w.heap.size hl0 (by omega))).trans s0; have s1' := (World.cell?_of_block (hSw.block w.heap.size hl0 (by omega))).trans s1; have x0' := (World.cell?_of_block (hSw.block (w.heap.size + 1) hl1 (by omega))).trans x0; have x1' := (World.cell?_of_block (hSw.block (w.heap.size + 1) hl1 (by omega))).trans x1; have x2' := (World.cell?_of_block (hSw.block (w.heap.size + 1) hl1 (by omega))).trans x2; have x3' := (World.cell?_of_block (hSw.block (w.heap.size + 1) hl1 (by omega))).trans x3; clear hSw; go_simp; all_goals (with_reducible rfl)); (try simp only [Act.put, List.setIfInBounds_toArray, List.set_cons_zero, List.set_cons_succ]))
    refine wpAnyH_ready (rs := [10]) (by kernel_rfl) (by simp) ?_
    refine AllReadyH.cons rfl (fun K hK => ?_) AllReadyH.nil
    rw [if_pos (by rfl)]
    have kT9 := kT.below hV9 hl2
    have d0 := kT9.cell 0
    have d1 := kT9.cell 1
    have f0 := kT9.frozen 0
    have f1 := kT9.frozen 1
    simp only [List.getElem?_toArray, List.getElem?_cons_zero, List.getElem?_cons_succ] at d0 d1
    go_simp
    refine hK.out _ _ (((KeepX.of_below hV9 (fun j => j = w.heap.size + 1 + 1)).setCell (p := ⟨w.heap.size + 1 + 1, 0, none⟩) (fun _ => rfl) _).setCell (p := ⟨w.heap.size + 1 + 1, 1, none⟩) (fun _ => rfl) _) (fun _ => ?_)
    clear hK K
    refine wpAnyH_done (by kernel_rfl) ?_ _
    (try simp only [Act.put, List.setIfInBounds_toArray, List.set_cons_zero, List.set_cons_succ])
    have k9 := (kT9.set 0 (.int .i64 N)).set 1 (.slice (some ⟨g13, 0, none⟩) (bs.length + 1) cap13)
    have hB9 := ((hB3.trans (hV9.mono hB3.size)).setCell (p := ⟨w.heap.size + 1 + 1, 0, none⟩) (by simp; omega) (.int .i64 N)).setCell (p := ⟨w.heap.size + 1 + 1, 1, none⟩) (by simp; omega) (.slice (some ⟨g13, 0, none⟩) (bs.length + 1) cap13)
    have hown9 := (hown13.kept (grown_setCell V9 ⟨w.heap.size + 1 + 1, 0, none⟩ (.int .i64 N)) (own_offN hown13 hl2)).kept (grown_setCell _ ⟨w.heap.size + 1 + 1, 1, none⟩ (.slice (some ⟨g13, 0, none⟩) (bs.length + 1) cap13)) (own_offN hown13 hl2)
    go_wp2_with fail
    refine bodyPost_ret (v := .agg #[.int .i64 N, .slice (some ⟨g13, 0, none⟩) (bs.length + 1) cap13]) (results_cell_row rfl _ _ (w.heap.size + 1 + 1) 24 _ (0, 0) _ rfl k9 Try.underlying24 rfl (by kernel_rfl)) rfl (by obtain ⟨A', c', h1, h2, h3⟩ := with_end (N := N) hown9 hB9; first | exact ⟨A', c', h1, h2, h3⟩ | exact ⟨A', ⟨c', by simpa using h1⟩, by simpa using h2, h3⟩)

end Go.Proofs.Yteiaofgkmgllcaa
