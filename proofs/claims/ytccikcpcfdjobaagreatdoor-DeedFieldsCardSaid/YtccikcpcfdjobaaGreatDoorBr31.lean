/-
  What the claims of layer deed need of the texts DRdc.
-/
import Derived.Test.YtccikcpcfdjobaaGreatDoorBr29
import Derived.Test.YtccikcpcfdjobaaGreatDoorBz
set_option linter.unusedVariables false
set_option linter.unusedSimpArgs false
set_option maxHeartbeats 8000000
set_option maxRecDepth 100000
namespace Go.Proofs.YtccikcpcfdjobaaGreatDoor
section
open Go.RowKit
theorem But.new_set {X : Nat → Prop} {w w' : World} (h : But X w w') {p : Addr} (hp : w.heap.size ≤ p.block) (u : Value) : But X w (w'.setCell p u) :=
 ⟨h.os, h.tape, h.output, by have := h.size; simpa [World.setCell] using this, fun k hk hx => (Below.heap_setCell _ _ _ _ (by omega)).trans (h.block k hk hx)⟩
theorem Wz.set {W : World} {b : Nat} {l : List Cs.Bs} (h : Wz W b l) {p : Addr} (hp : b < p.block) (u : Value) : Wz (W.setCell p u) b l :=
 h.but (X := fun k => k = p.block) (But.set (X := fun k => k = p.block) (But.refl _ _) rfl u) (fun k hk e => by omega)
theorem Env.set {W : World} (h : Env W) {p : Addr} (hp : 9 ≤ p.block) (u : Value) : Env (W.setCell p u) := h.low ((Below.refl _ _).setCell hp u)
theorem course_any (b : Nat) (l : List Cs.Bs) (W : World) (hE : Env W) (h : Wz W b l) :
  Calls Tryz.prog 200 #[.pointer (some ⟨b, 0, none⟩)] W (Wo b W drval (Dd.courseM l)) := by
 have hg := h.g9
 have hbl := h.lt
 have kg := Bk.new W 130 zero17
 have hB0 := (Below.refl W.heap.size W).alloc (Nat.le_refl _) (.cells zero17 130)
 have hz0 := h.below hB0
 have HE0 := jQ (hE.step hB0)
 simp only [zero17] at kg hB0 hz0 HE0
 have HB0 := jQ (But.of (X := fun k => k = b) hB0)
 have HZ0 := jQ hz0
 have HK0 := jQ kg
 have hne : ¬ W.heap.size = b := by omega
 have HBL := jQ hbl
 clear h hE kg hB0 hz0 hbl
 go_enter Tryz.func200, Tryz.ntmps200
 go_wp2_with fail
 rcases hs : Dd.nameW l with _ | ⟨a0, l0⟩
 ·have HW := jQ (show Dd.courseM l = none by simp [Dd.courseM, hs])
  have HX := jQ hs
  clear hs
  refine (wname_any b l _ HZ0.o).mono ?_
  intro e w1 he
  obtain ⟨rfl, hb⟩ := he.none_ HX.o
  clear he
  go_wp2_with fail
  exact ⟨rfl, Wo.no HW.o (HB0.o.trans hb)⟩
 have HS0 := jQ hs
 clear hs
 refine (wname_any b l _ HZ0.o).mono ?_
 intro e v1 he
 obtain ⟨rfl, hb, hz⟩ := he.some_ HS0.o
 have HB1 := jQ (HB0.o.trans hb)
 have HZ1 := jQ hz
 have HE1 := jQ (HE0.o.but1 hb hg)
 have HK1 := jQ (hb.bk HK0.o hne)
 clear he hb hz
 simp only [sv_def]
 go_wp2_with fail
 rcases hs : Dd.nameW l0 with _ | ⟨a1, l1⟩
 ·have HW := jQ (show Dd.courseM l = none by simp [Dd.courseM, HS0.o, hs])
  have HX := jQ hs
  clear hs
  refine (wname_any b l0 _ HZ1.o).mono ?_
  intro e w1 he
  obtain ⟨rfl, hb⟩ := he.none_ HX.o
  clear he
  go_wp2_with fail
  exact ⟨rfl, Wo.no HW.o (HB1.o.trans hb)⟩
 have HS1 := jQ hs
 clear hs
 refine (wname_any b l0 _ HZ1.o).mono ?_
 intro e v2 he
 obtain ⟨rfl, hb, hz⟩ := he.some_ HS1.o
 have HB2 := jQ (HB1.o.trans hb)
 have HZ2 := jQ hz
 have HE2 := jQ (HE1.o.but1 hb hg)
 have HK2 := jQ (hb.bk HK1.o hne)
 clear he hb hz
 simp only [sv_def]
 go_wp2_with fail
 rcases hs : Dd.nameW l1 with _ | ⟨a2, l2⟩
 ·have HW := jQ (show Dd.courseM l = none by simp [Dd.courseM, HS0.o, HS1.o, hs])
  have HX := jQ hs
  clear hs
  refine (wname_any b l1 _ HZ2.o).mono ?_
  intro e w1 he
  obtain ⟨rfl, hb⟩ := he.none_ HX.o
  clear he
  go_wp2_with fail
  exact ⟨rfl, Wo.no HW.o (HB2.o.trans hb)⟩
 have HS2 := jQ hs
 clear hs
 refine (wname_any b l1 _ HZ2.o).mono ?_
 intro e v3 he
 obtain ⟨rfl, hb, hz⟩ := he.some_ HS2.o
 have hB3 := HB2.o.trans hb
 have hE3 := HE2.o.but1 hb hg
 have hK3 := hb.bk HK2.o hne
 have hbn := (Below.refl v3.heap.size v3).alloc (Nat.le_refl _) (.cells (drcells ⟨a0, [], a1, a2, { Dd.ca0 with k := 3, c := ⟨0, 0, 0, 0, 0, 0⟩ }⟩).toArray 130)
 have hkd := Bk.new v3 130 (drcells ⟨a0, [], a1, a2, { Dd.ca0 with k := 3, c := ⟨0, 0, 0, 0, 0, 0⟩ }⟩).toArray
 have hgd : W.heap.size < v3.heap.size := hK3.lt
 obtain ⟨w3, hw3⟩ : ∃ w3, v3.alloc (.cells (drcells ⟨a0, [], a1, a2, { Dd.ca0 with k := 3, c := ⟨0, 0, 0, 0, 0, 0⟩ }⟩).toArray 130) = w3 := ⟨_, rfl⟩
 obtain ⟨gd, hgd2⟩ : ∃ gd, v3.heap.size = gd := ⟨_, rfl⟩
 have hz3 := hz.below hbn
 have HB3 := jQ (hw3 ▸ hB3.trans (But.of hbn))
 have HZ3 := jQ (hw3 ▸ hz3)
 have HE3 := jQ (hw3 ▸ hE3.step hbn)
 have HK3 := jQ (hw3 ▸ hK3.below hbn hK3.lt)
 have HD3 := jQ (hgd2 ▸ hw3 ▸ hkd)
 have hnd : ¬ gd = b := by have := HBL.o; omega
 have hnw : ¬ gd = W.heap.size := by omega
 have hgw : W.heap.size < gd := by omega
 clear he hb hz hB3 hE3 hK3 hbn hkd hz3 hgd
 simp only [sv_def]
 go_wp2_with fail
 rw [show v3.alloc (.cells #[.string ⟨a0.toArray⟩, .string ⟨#[]⟩, .string ⟨a1.toArray⟩, .string ⟨a2.toArray⟩, .int .u8 3, .int .i64 0, .int .i64 0, .int .i64 0, .int .i64 0, .int .i64 0, .int .i64 0, .int .i64 0, .int .i64 0, .int .i64 0, .int .i64 0, .int .i64 0, .int .i64 0] 130) = w3 from hw3]
 try rw [hgd2]
 clear hw3 hgd2
 rcases hs : Dd.lenW Dd.kBy l2 with _ | ⟨a3, l3⟩
 ·have HW := jQ (show Dd.courseM l = none by simp [Dd.courseM, HS0.o, HS1.o, HS2.o, hs])
  have HX := jQ hs
  clear hs
  refine (length_any b Dd.kBy l2 _ (HE3.o) HZ3.o).mono ?_
  intro e w1 he
  obtain ⟨rfl, hb⟩ := he.none_ HX.o
  clear he
  go_wp2_with fail
  exact ⟨rfl, Wo.no HW.o (HB3.o.trans hb)⟩
 have HS3 := jQ hs
 clear hs
 refine (length_any b Dd.kBy l2 _ (HE3.o) HZ3.o).mono ?_
 intro e v4 he
 obtain ⟨rfl, hb, hz⟩ := he.some_ HS3.o
 have hd := hb.bk HD3.o hnd
 have c0 := (hd.cell 13).trans rfl
 have f0 := hd.frozen 13
 have l0 := hd.lt
 have HB4 := jQ ((HB3.o.trans hb).new_set (p := ⟨gd, 13, none⟩) (Nat.le_of_lt hgw) (.int .i64 a3))
 have HZ4 := jQ (hz.set (p := ⟨gd, 13, none⟩) (show b < gd by have := HBL.o; omega) (.int .i64 a3))
 have HE4 := jQ ((HE3.o.but1 hb hg).set (p := ⟨gd, 13, none⟩) (show 9 ≤ gd by have := HBL.o; omega) (.int .i64 a3))
 have HK4 := jQ ((hb.bk HK3.o hne).far (p := ⟨gd, 13, none⟩) (show W.heap.size ≠ gd by omega) (.int .i64 a3))
 have HD4 := jQ (show Bk _ gd 130 (drcells ⟨a0, [], a1, a2, { Dd.ca0 with k := 3, c := ⟨0, 0, a3, 0, 0, 0⟩ }⟩).toArray from hd.set 13 (.int .i64 a3))
 clear he hb hz hd
 simp only [zv]
 go_wp2_with fail
 rcases hs : Dd.berW Dd.kGive l3 with _ | ⟨a4, l4⟩
 ·have HW := jQ (show Dd.courseM l = none by simp [Dd.courseM, HS0.o, HS1.o, HS2.o, HS3.o, hs])
  have HX := jQ hs
  clear hs
  refine (bearing_any b Dd.kGive l3 _ (HE4.o) HZ4.o).mono ?_
  intro e w1 he
  obtain ⟨rfl, hb⟩ := he.none_ HX.o
  clear he
  go_wp2_with fail
  exact ⟨rfl, Wo.no HW.o (HB4.o.trans hb)⟩
 have HS4 := jQ hs
 clear hs
 refine (bearing_any b Dd.kGive l3 _ (HE4.o) HZ4.o).mono ?_
 intro e v5 he
 obtain ⟨rfl, hb, hz⟩ := he.some_ HS4.o
 have hd := hb.bk HD4.o hnd
 have c0 := (hd.cell 11).trans rfl
 have f0 := hd.frozen 11
 have l0 := hd.lt
 have HB5 := jQ ((HB4.o.trans hb).new_set (p := ⟨gd, 11, none⟩) (Nat.le_of_lt hgw) (.int .i64 a4))
 have HZ5 := jQ (hz.set (p := ⟨gd, 11, none⟩) (show b < gd by have := HBL.o; omega) (.int .i64 a4))
 have HE5 := jQ ((HE4.o.but1 hb hg).set (p := ⟨gd, 11, none⟩) (show 9 ≤ gd by have := HBL.o; omega) (.int .i64 a4))
 have HK5 := jQ ((hb.bk HK4.o hne).far (p := ⟨gd, 11, none⟩) (show W.heap.size ≠ gd by omega) (.int .i64 a4))
 have HD5 := jQ (show Bk _ gd 130 (drcells ⟨a0, [], a1, a2, { Dd.ca0 with k := 3, c := ⟨a4, 0, a3, 0, 0, 0⟩ }⟩).toArray from hd.set 11 (.int .i64 a4))
 clear he hb hz hd
 simp only [zv]
 go_wp2_with fail
 rcases hs : Dd.nnW l4 with _ | ⟨a5, l5⟩
 ·have HW := jQ (show Dd.courseM l = none by simp [Dd.courseM, HS0.o, HS1.o, HS2.o, HS3.o, HS4.o, hs])
  have HX := jQ hs
  clear hs
  refine (number_any b l4 _ (HE5.o) HZ5.o).mono ?_
  intro e w1 he
  obtain ⟨rfl, hb⟩ := he.none_ HX.o
  clear he
  go_wp2_with fail
  exact ⟨rfl, Wo.no HW.o (HB5.o.trans hb)⟩
 have HS5 := jQ hs
 clear hs
 refine (number_any b l4 _ (HE5.o) HZ5.o).mono ?_
 intro e v6 he
 obtain ⟨rfl, hb, hz⟩ := he.some_ HS5.o
 have hd := hb.bk HD5.o hnd
 have c0 := (hd.cell 12).trans rfl
 have f0 := hd.frozen 12
 have l0 := hd.lt
 have HB6 := jQ ((HB5.o.trans hb).new_set (p := ⟨gd, 12, none⟩) (Nat.le_of_lt hgw) (.int .i64 a5))
 have HZ6 := jQ (hz.set (p := ⟨gd, 12, none⟩) (show b < gd by have := HBL.o; omega) (.int .i64 a5))
 have HE6 := jQ ((HE5.o.but1 hb hg).set (p := ⟨gd, 12, none⟩) (show 9 ≤ gd by have := HBL.o; omega) (.int .i64 a5))
 have HK6 := jQ ((hb.bk HK5.o hne).far (p := ⟨gd, 12, none⟩) (show W.heap.size ≠ gd by omega) (.int .i64 a5))
 have HD6 := jQ (show Bk _ gd 130 (drcells ⟨a0, [], a1, a2, { Dd.ca0 with k := 3, c := ⟨a4, a5, a3, 0, 0, 0⟩ }⟩).toArray from hd.set 12 (.int .i64 a5))
 clear he hb hz hd
 simp only [zv]
 go_wp2_with fail
 rcases hs : Dd.fixW Dd.kWear l5 with _ | ⟨a6, l6⟩
 ·have HW := jQ (show Dd.courseM l = none by simp [Dd.courseM, HS0.o, HS1.o, HS2.o, HS3.o, HS4.o, HS5.o, hs])
  have HX := jQ hs
  clear hs
  refine (fixed_any b Dd.kWear l5 _ HZ6.o).mono ?_
  intro e w1 he
  obtain ⟨rfl, hb⟩ := he.none_ HX.o
  clear he
  go_wp2_with fail
  exact ⟨rfl, Wo.no HW.o (HB6.o.trans hb)⟩
 have HS6 := jQ hs
 clear hs
 refine (fixed_any b Dd.kWear l5 _ HZ6.o).mono ?_
 intro e v7 he
 obtain ⟨rfl, hb, hz⟩ := he.some_ HS6.o
 have HB7 := jQ (HB6.o.trans hb)
 have HZ7 := jQ hz
 have HE7 := jQ (HE6.o.but1 hb hg)
 have HK7 := jQ (hb.bk HK6.o hne)
 have HD7 := jQ (hb.bk HD6.o hnd)
 clear he hb hz
 simp only [uv]
 go_wp2_with fail
 rcases hs : Dd.sgnW l6 with _ | ⟨a7, l7⟩
 ·have HW := jQ (show Dd.courseM l = none by simp [Dd.courseM, HS0.o, HS1.o, HS2.o, HS3.o, HS4.o, HS5.o, HS6.o, hs])
  have HX := jQ hs
  clear hs
  refine (signed_any b l6 _ (HE7.o) HZ7.o).mono ?_
  intro e w1 he
  obtain ⟨rfl, hb⟩ := he.none_ HX.o
  clear he
  go_wp2_with fail
  exact ⟨rfl, Wo.no HW.o (HB7.o.trans hb)⟩
 have HS7 := jQ hs
 clear hs
 refine (signed_any b l6 _ (HE7.o) HZ7.o).mono ?_
 intro e v8 he
 obtain ⟨rfl, hb, hz⟩ := he.some_ HS7.o
 have hd := hb.bk HD7.o hnd
 have c0 := (hd.cell 15).trans rfl
 have f0 := hd.frozen 15
 have l0 := hd.lt
 have HB8 := jQ ((HB7.o.trans hb).new_set (p := ⟨gd, 15, none⟩) (Nat.le_of_lt hgw) (.int .i64 a7))
 have HZ8 := jQ (hz.set (p := ⟨gd, 15, none⟩) (show b < gd by have := HBL.o; omega) (.int .i64 a7))
 have HE8 := jQ ((HE7.o.but1 hb hg).set (p := ⟨gd, 15, none⟩) (show 9 ≤ gd by have := HBL.o; omega) (.int .i64 a7))
 have HK8 := jQ ((hb.bk HK7.o hne).far (p := ⟨gd, 15, none⟩) (show W.heap.size ≠ gd by omega) (.int .i64 a7))
 have HD8 := jQ (show Bk _ gd 130 (drcells ⟨a0, [], a1, a2, { Dd.ca0 with k := 3, c := ⟨a4, a5, a3, 0, a7, 0⟩ }⟩).toArray from hd.set 15 (.int .i64 a7))
 clear he hb hz hd
 simp only [zv]
 go_wp2_with fail
 rcases hs : Dd.fixW Dd.kSlack l7 with _ | ⟨a8, l8⟩
 ·have HW := jQ (show Dd.courseM l = none by simp [Dd.courseM, HS0.o, HS1.o, HS2.o, HS3.o, HS4.o, HS5.o, HS6.o, HS7.o, hs])
  have HX := jQ hs
  clear hs
  refine (fixed_any b Dd.kSlack l7 _ HZ8.o).mono ?_
  intro e w1 he
  obtain ⟨rfl, hb⟩ := he.none_ HX.o
  clear he
  go_wp2_with fail
  exact ⟨rfl, Wo.no HW.o (HB8.o.trans hb)⟩
 have HS8 := jQ hs
 clear hs
 refine (fixed_any b Dd.kSlack l7 _ HZ8.o).mono ?_
 intro e v9 he
 obtain ⟨rfl, hb, hz⟩ := he.some_ HS8.o
 have HB9 := jQ (HB8.o.trans hb)
 have HZ9 := jQ hz
 have HE9 := jQ (HE8.o.but1 hb hg)
 have HK9 := jQ (hb.bk HK8.o hne)
 have HD9 := jQ (hb.bk HD8.o hnd)
 clear he hb hz
 simp only [uv]
 go_wp2_with fail
 rcases hs : Dd.nnW l8 with _ | ⟨a9, l9⟩
 ·have HW := jQ (show Dd.courseM l = none by simp [Dd.courseM, HS0.o, HS1.o, HS2.o, HS3.o, HS4.o, HS5.o, HS6.o, HS7.o, HS8.o, hs])
  have HX := jQ hs
  clear hs
  refine (number_any b l8 _ (HE9.o) HZ9.o).mono ?_
  intro e w1 he
  obtain ⟨rfl, hb⟩ := he.none_ HX.o
  clear he
  go_wp2_with fail
  exact ⟨rfl, Wo.no HW.o (HB9.o.trans hb)⟩
 have HS9 := jQ hs
 clear hs
 refine (number_any b l8 _ (HE9.o) HZ9.o).mono ?_
 intro e v10 he
 obtain ⟨rfl, hb, hz⟩ := he.some_ HS9.o
 have hd := hb.bk HD9.o hnd
 have c0 := (hd.cell 16).trans rfl
 have f0 := hd.frozen 16
 have l0 := hd.lt
 have HB10 := jQ ((HB9.o.trans hb).new_set (p := ⟨gd, 16, none⟩) (Nat.le_of_lt hgw) (.int .i64 a9))
 have HZ10 := jQ (hz.set (p := ⟨gd, 16, none⟩) (show b < gd by have := HBL.o; omega) (.int .i64 a9))
 have HE10 := jQ ((HE9.o.but1 hb hg).set (p := ⟨gd, 16, none⟩) (show 9 ≤ gd by have := HBL.o; omega) (.int .i64 a9))
 have HK10 := jQ ((hb.bk HK9.o hne).far (p := ⟨gd, 16, none⟩) (show W.heap.size ≠ gd by omega) (.int .i64 a9))
 have HD10 := jQ (show Bk _ gd 130 (drcells ⟨a0, [], a1, a2, { Dd.ca0 with k := 3, c := ⟨a4, a5, a3, 0, a7, a9⟩ }⟩).toArray from hd.set 16 (.int .i64 a9))
 clear he hb hz hd
 simp only [zv]
 go_wp2_with (first | (refine wpList_load_row rfl 130 (.tmp 3) rfl gd rfl 130 _ (0, 0) _ HD10.o Tryz.underlying130 rfl (by kernel_rfl) ?_) | (refine wpList_store_row rfl 130 (.tmp 2) (.tmp 46) rfl W.heap.size _ rfl rfl 130 _ HK10.o (by kernel_rfl) rfl (by kernel_rfl) ?_))
 have hk := HK10.o.row (drcells ⟨a0, [], a1, a2, { Dd.ca0 with k := 3, c := ⟨a4, a5, a3, 0, a7, a9⟩ }⟩).toArray
 have HW := jQ (show Dd.courseM l = some (⟨a0, [], a1, a2, { Dd.ca0 with k := 3, c := ⟨a4, a5, a3, 0, a7, a9⟩ }⟩, l9) by simp [Dd.courseM, HS0.o, HS1.o, HS2.o, HS3.o, HS4.o, HS5.o, HS6.o, HS7.o, HS8.o, HS9.o])
 have hB := But.row (X := fun k => k = b ∨ k = W.heap.size) (g := W.heap.size) (HB10.o.mono (fun k h => .inl h)) (.inr rfl) (drcells ⟨a0, [], a1, a2, { Dd.ca0 with k := 3, c := ⟨a4, a5, a3, 0, a7, a9⟩ }⟩).toArray
 have hZ := HZ10.o.but (But.row (X := fun k => k = W.heap.size) (g := W.heap.size) (But.refl _ _) rfl (drcells ⟨a0, [], a1, a2, { Dd.ca0 with k := 3, c := ⟨a4, a5, a3, 0, a7, a9⟩ }⟩).toArray) (fun k hk e => by have := HBL.o; omega)
 refine bodyPost_ret (results_cell_row1 rfl _ _ W.heap.size 130 _ (0, 0) _ rfl hk Tryz.underlying130 rfl (by kernel_rfl)) rfl ?_
 exact Wo.yes (val := drval) HW.o ⟨hB.os, hB.tape, hB.output, hB.size, fun k h1 h2 => hB.block k h1 (by rintro (e | e) <;> omega)⟩ hZ
end
end Go.Proofs.YtccikcpcfdjobaaGreatDoor
