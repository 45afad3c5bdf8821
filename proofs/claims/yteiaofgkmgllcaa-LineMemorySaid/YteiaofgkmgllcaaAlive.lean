/-
  alive.
-/
import Derived.Test.YteiaofgkmgllcaaWith
import Derived.Test.YteiaofgkmgllcaaPath
import Derived.Test.YteiaofgkmgllcaaBetw
import Derived.Test.YteiaofgkmgllcaaThru
import Derived.Test.YteiaofgkmgllcaaRefA
set_option linter.unusedVariables false
set_option linter.unusedSimpArgs false
namespace Go.Proofs.Yteiaofgkmgllcaa
open Go.RowKit Go.Shelf

theorem same_true (A1 : Option Addr) (c1 : Nat) (l : List Int) (g : Nat) (w0 w : World) (hs : sameI l l = true) (hA : Rd w0 w0.heap.size 1 A1 l.length (ints l)) (hB : Below w0.heap.size w0 w) (kB : Bk w g 3 (av l)) (hl : l.length ≤ 1000000) :
    Calls Try.prog 14 #[.slice A1 l.length c1, .slice (some ⟨g, 0, none⟩) l.length l.length] w fun e w' => e = .returned (.bool true) ∧ Below w.heap.size w w' := by
  have h := sameInts_any A1 c1 l (some ⟨g, 0, none⟩) l.length l w ((hA.below hB (Nat.le_refl _)).more hB.size) (bk_rd kB (by omega)) hl hl
  rw [hs] at h
  exact h

set_option maxRecDepth 100000 in
set_option maxHeartbeats 4000000 in
theorem alive_any (w : World) : Calls Try.prog 7 #[] w fun e w' => e = .returned (.bool true) ∧ Below w.heap.size w w' := by
  have hdi := fun A c w h => distance_any 4 A c Ln.smp 0 2 w h Ln.smp_lv
  have hpa := fun A c w h => path_any 4 A c Ln.smp 0 2 w h Ln.smp_lv
  have hra := fun A c w h => range_any 4 A c Ln.smp 2 w h Ln.smp_lv
  have hso := fun A c w h => some_any 4 A c Ln.smp w h Ln.smp_lv
  have hth := fun A c w h => through_any 4 A c Ln.smp 1 3 w h Ln.smp_lv
  have hnd := fun A c w h => needless_any 4 A c Ln.smp w h Ln.smp_lv
  have hwi := fun A c w h => with_any 4 A c Ln.smp ⟨2, 0, -9, 5, false⟩ w h (by decide) (by decide)
  have hci := fun A c w h => circle_any 4 A c Ln.smq w h Ln.smq_lv
  have hbl := fun A c w h => blame_any 4 A c Ln.smq w h Ln.smq_lv
  rw [Ln.smp_di] at hdi
  rw [Ln.smp_pa] at hpa
  rw [Ln.smp_bt] at hra
  rw [Ln.smp_some] at hso
  rw [Ln.smp_th] at hth
  rw [Ln.smp_nd] at hnd
  rw [Ln.smq_ci] at hci
  rw [Ln.smq_bl] at hbl
  rw [show Ln.smp ++ [(⟨2, 0, -9, 5, false⟩ : Ln.Bd)] = Ln.smq from rfl] at hwi
  unfold spanV at hra
  have hsz1 : Ln.smp.length = 5 := rfl
  have hsz2 : Ln.smq.length = 6 := rfl
  simp only [hsz1] at hdi hpa hra hso hth hnd hwi
  simp only [hsz2] at hwi hci hbl
  have hsam := sample_any w
  simp only [hsz1] at hsam
  have HDI := Lib.hid hdi
  have HPA := Lib.hid hpa
  have HRA := Lib.hid hra
  have HSO := Lib.hid hso
  have HTH := Lib.hid hth
  have HND := Lib.hid hnd
  have HWI := Lib.hid hwi
  have HCI := Lib.hid hci
  have HBL := Lib.hid hbl
  have HSA := Lib.hid hsam
  clear hdi hpa hra hso hth hnd hwi hci hbl hsam hsz1 hsz2
  go_enter Try.func7, Try.ntmps7
  go_wp2_with (go_at_call 26; refine HSA.out.mono ?_; rintro e w1 ⟨g, c, rfl, hrd1, hb1⟩)
  have kS1 := Bk.new w1 24 #[.int .i64 4, .slice (some ⟨g, 0, none⟩) 5 c]
  have hB1 := hb1.alloc hb1.size (.cells #[.int .i64 4, .slice (some ⟨g, 0, none⟩) 5 c] 24)
  have hX1 : Below w1.heap.size w1 (w1.alloc (.cells #[.int .i64 4, .slice (some ⟨g, 0, none⟩) 5 c] 24)) := (Below.refl _ _).alloc (Nat.le_refl _) _
  have hR1 := (hrd1.below hX1 (Nat.le_refl _)).more hX1.size
  obtain ⟨sb, hsb⟩ : ∃ sb, w1.heap.size = sb := ⟨_, rfl⟩
  obtain ⟨W1, hW1⟩ : ∃ W1, w1.alloc (.cells #[.int .i64 4, .slice (some ⟨g, 0, none⟩) 5 c] 24) = W1 := ⟨_, rfl⟩
  rw [hW1] at kS1 hB1 hR1 ⊢
  rw [hsb] at kS1 ⊢
  clear hX1 hrd1 hb1 hW1 hsb
  refine (HDI.out _ c _ hR1).mono ?_
  rintro e w2 ⟨rfl, hb2⟩
  have hB2 := hB1.trans (hb2.mono hB1.size)
  have kS2 := kS1.below hb2 kS1.lt
  have hR2 := (hR1.below hb2 (Nat.le_refl _)).more hb2.size
  have d0 := kS2.cell 0
  have d1 := kS2.cell 1
  have dl := kS2.lt
  simp only [List.getElem?_toArray, List.getElem?_cons_zero, List.getElem?_cons_succ] at d0 d1
  go_wp2_with fail
  refine (HPA.out _ c _ hR2).mono ?_
  rintro e w3 ⟨Ap, cp, rfl, hrp, hb3⟩
  have hB3 := hB2.trans (hb3.mono hB2.size)
  have kS3 := kS2.below hb3 kS2.lt
  have hR3 := (hR2.below hb3 (Nat.le_refl _)).more hb3.size
  have d0 := kS3.cell 0
  have d1 := kS3.cell 1
  have dl := kS3.lt
  simp only [List.getElem?_toArray, List.getElem?_cons_zero, List.getElem?_cons_succ] at d0 d1
  go_wp2_with fail
  have eP3 := Below.refl w3.heap.size w3
  refine (HRA.out _ c _ hR3).mono ?_
  rintro e w4 ⟨rfl, hb4⟩
  have hB4 := (hB3.trans (hb4.mono hB3.size)).alloc (Nat.le_trans hB3.size hb4.size) (.cells #[.int .i64 3, .int .i64 8, .bool true, .bool true] 43)
  have hX4 : Below w4.heap.size w4 (w4.alloc (.cells #[.int .i64 3, .int .i64 8, .bool true, .bool true] 43)) := (Below.refl _ _).alloc (Nat.le_refl _) _
  have kS4 := (kS3.below hb4 kS3.lt).alloc (.cells #[.int .i64 3, .int .i64 8, .bool true, .bool true] 43)
  have hR4 := (((hR3.below hb4 (Nat.le_refl _)).more hb4.size).below hX4 (Nat.le_refl _)).more hX4.size
  have eP4 := (eP3.trans (hb4.mono eP3.size)).alloc (Nat.le_trans eP3.size hb4.size) (.cells #[.int .i64 3, .int .i64 8, .bool true, .bool true] 43)
  have kX4 := Bk.new w4 43 #[.int .i64 3, .int .i64 8, .bool true, .bool true]
  have d0 := kS4.cell 0
  have d1 := kS4.cell 1
  have dl := kS4.lt
  simp only [List.getElem?_toArray, List.getElem?_cons_zero, List.getElem?_cons_succ] at d0 d1
  go_wp2_with fail
  obtain ⟨xb, hxb⟩ : ∃ xb, w4.heap.size = xb := ⟨_, rfl⟩
  obtain ⟨W4, hW4⟩ : ∃ W4, w4.alloc (.cells #[.int .i64 3, .int .i64 8, .bool true, .bool true] 43) = W4 := ⟨_, rfl⟩
  rw [hW4] at hB4 kS4 hR4 eP4 kX4 ⊢
  rw [hxb] at kX4 ⊢
  clear hX4 hW4 hxb d0 d1 dl
  refine (HSO.out _ _ _ hR4).mono ?_
  rintro e w5 ⟨As, cs, rfl, hrs, hb5⟩
  have hB5 := hB4.trans (hb5.mono hB4.size)
  have kS5 := kS4.below hb5 kS4.lt
  have hR5 := (hR4.below hb5 (Nat.le_refl _)).more hb5.size
  have eP5 := eP4.trans (hb5.mono eP4.size)
  have kX5 := kX4.below hb5 kX4.lt
  have d0 := kS5.cell 0
  have d1 := kS5.cell 1
  have dl := kS5.lt
  simp only [List.getElem?_toArray, List.getElem?_cons_zero, List.getElem?_cons_succ] at d0 d1
  go_wp2_with fail
  have eS5 := Below.refl w5.heap.size w5
  clear d0 d1 dl
  refine (HTH.out _ _ _ hR5).mono ?_
  rintro e w6 ⟨At, ct, rfl, hrt, hb6⟩
  have hB6 := hB5.trans (hb6.mono hB5.size)
  have kS6 := kS5.below hb6 kS5.lt
  have hR6 := (hR5.below hb6 (Nat.le_refl _)).more hb6.size
  have eP6 := eP5.trans (hb6.mono eP5.size)
  have eS6 := eS5.trans (hb6.mono eS5.size)
  have kX6 := kX5.below hb6 kX5.lt
  have d0 := kS6.cell 0
  have d1 := kS6.cell 1
  have dl := kS6.lt
  simp only [List.getElem?_toArray, List.getElem?_cons_zero, List.getElem?_cons_succ] at d0 d1
  go_wp2_with fail
  have eT6 := Below.refl w6.heap.size w6
  clear d0 d1 dl
  refine (HND.out _ _ _ hR6).mono ?_
  rintro e w7 ⟨An, cn, rfl, hrn, hb7⟩
  have hB7 := hB6.trans (hb7.mono hB6.size)
  have kS7 := kS6.below hb7 kS6.lt
  have hR7 := (hR6.below hb7 (Nat.le_refl _)).more hb7.size
  have eP7 := eP6.trans (hb7.mono eP6.size)
  have eS7 := eS6.trans (hb7.mono eS6.size)
  have eT7 := eT6.trans (hb7.mono eT6.size)
  have kX7 := kX6.below hb7 kX6.lt
  have d0 := kS7.cell 0
  have d1 := kS7.cell 1
  have dl := kS7.lt
  simp only [List.getElem?_toArray, List.getElem?_cons_zero, List.getElem?_cons_succ] at d0 d1
  go_wp2_with fail
  have eN7 := Below.refl w7.heap.size w7
  clear d0 d1 dl
  refine (HWI.out _ _ _ hR7).mono ?_
  rintro e w8 ⟨Aw, cw, rfl, hrw, hb8⟩
  have hX8 : Below w8.heap.size w8 (w8.alloc (.cells #[.int .i64 4, .slice Aw 6 cw] 24)) := (Below.refl _ _).alloc (Nat.le_refl _) _
  have hB8 := (hB7.trans (hb8.mono hB7.size)).alloc (Nat.le_trans hB7.size hb8.size) (.cells #[.int .i64 4, .slice Aw 6 cw] 24)
  have kQ8 := Bk.new w8 24 #[.int .i64 4, .slice Aw 6 cw]
  have hR8 := (hrw.below hX8 (Nat.le_refl _)).more hX8.size
  have eP8 := (eP7.trans (hb8.mono eP7.size)).alloc (Nat.le_trans eP7.size hb8.size) (.cells #[.int .i64 4, .slice Aw 6 cw] 24)
  have eS8 := (eS7.trans (hb8.mono eS7.size)).alloc (Nat.le_trans eS7.size hb8.size) (.cells #[.int .i64 4, .slice Aw 6 cw] 24)
  have eT8 := (eT7.trans (hb8.mono eT7.size)).alloc (Nat.le_trans eT7.size hb8.size) (.cells #[.int .i64 4, .slice Aw 6 cw] 24)
  have eN8 := (eN7.trans (hb8.mono eN7.size)).alloc (Nat.le_trans eN7.size hb8.size) (.cells #[.int .i64 4, .slice Aw 6 cw] 24)
  have kX8 := (kX7.below hb8 kX7.lt).alloc (.cells #[.int .i64 4, .slice Aw 6 cw] 24)
  go_wp2_with fail
  obtain ⟨qb, hqb⟩ : ∃ qb, w8.heap.size = qb := ⟨_, rfl⟩
  obtain ⟨W8, hW8⟩ : ∃ W8, w8.alloc (.cells #[.int .i64 4, .slice Aw 6 cw] 24) = W8 := ⟨_, rfl⟩
  rw [hW8] at hB8 kQ8 hR8 eP8 eS8 eT8 eN8 kX8 ⊢
  rw [hqb] at kQ8 ⊢
  clear hX8 hW8 hqb
  refine (HCI.out _ _ _ hR8).mono ?_
  rintro e w9 ⟨Ac, cc, rfl, hrc, hb9⟩
  have hB9 := hB8.trans (hb9.mono hB8.size)
  have kQ9 := kQ8.below hb9 kQ8.lt
  have hR9 := (hR8.below hb9 (Nat.le_refl _)).more hb9.size
  have eP9 := eP8.trans (hb9.mono eP8.size)
  have eS9 := eS8.trans (hb9.mono eS8.size)
  have eT9 := eT8.trans (hb9.mono eT8.size)
  have eN9 := eN8.trans (hb9.mono eN8.size)
  have kX9 := kX8.below hb9 kX8.lt
  have d0 := kQ9.cell 0
  have d1 := kQ9.cell 1
  have dl := kQ9.lt
  simp only [List.getElem?_toArray, List.getElem?_cons_zero, List.getElem?_cons_succ] at d0 d1
  go_wp2_with fail
  have eC9 := Below.refl w9.heap.size w9
  clear d0 d1 dl
  refine (HBL.out _ _ _ hR9).mono ?_
  rintro e w10 ⟨Ab, cb, rfl, hrb, hb10⟩
  have hB10 := hB9.trans (hb10.mono hB9.size)
  have eP10 := eP9.trans (hb10.mono eP9.size)
  have eS10 := eS9.trans (hb10.mono eS9.size)
  have eT10 := eT9.trans (hb10.mono eT9.size)
  have eN10 := eN9.trans (hb10.mono eN9.size)
  have eC10 := eC9.trans (hb10.mono eC9.size)
  have kX10 := kX9.below hb10 kX9.lt
  go_wp2_with fail
  have Z0 := Below.refl w10.heap.size w10
  have Y0 := Z0.alloc Z0.size (.cells #[.int .i64 0, .int .i64 2] 3)
  refine (same_true Ap cp [0, 2] w10.heap.size w3 _ rfl hrp (eP10.trans (Y0.mono eP10.size)) (Bk.new w10 3 _) (by decide)).mono ?_
  rintro e v0 ⟨rfl, hv0⟩
  have Z1 := Y0.trans (hv0.mono Y0.size)
  go_wp2_with fail
  have Y1 := Z1.alloc Z1.size (.cells #[.int .i64 0, .int .i64 5, .int .i64 8, .int .i64 0] 3)
  refine (same_true As cs [0, 5, 8, 0] v0.heap.size w5 _ rfl hrs (eS10.trans (Y1.mono eS10.size)) (Bk.new v0 3 _) (by decide)).mono ?_
  rintro e v1 ⟨rfl, hv1⟩
  have Z2 := Y1.trans (hv1.mono Y1.size)
  go_wp2_with fail
  have Y2 := Z2.alloc Z2.size (.cells #[.int .i64 0, .int .i64 3, .int .i64 6, .int .i64 0] 3)
  refine (same_true At ct [0, 3, 6, 0] v1.heap.size w6 _ rfl hrt (eT10.trans (Y2.mono eT10.size)) (Bk.new v1 3 _) (by decide)).mono ?_
  rintro e v2 ⟨rfl, hv2⟩
  have Z3 := Y2.trans (hv2.mono Y2.size)
  go_wp2_with fail
  have Y3 := Z3.alloc Z3.size (.cells #[.int .i64 4] 3)
  refine (same_true An cn [4] v2.heap.size w7 _ rfl hrn (eN10.trans (Y3.mono eN10.size)) (Bk.new v2 3 _) (by decide)).mono ?_
  rintro e v3 ⟨rfl, hv3⟩
  have Z4 := Y3.trans (hv3.mono Y3.size)
  go_wp2_with fail
  have Y4 := Z4.alloc Z4.size (.cells #[.int .i64 0, .int .i64 2, .int .i64 5] 3)
  refine (same_true Ac cc [0, 2, 5] v3.heap.size w9 _ rfl hrc (eC10.trans (Y4.mono eC10.size)) (Bk.new v3 3 _) (by decide)).mono ?_
  rintro e v4 ⟨rfl, hv4⟩
  have Z5 := Y4.trans (hv4.mono Y4.size)
  go_wp2_with fail
  have Y5 := Z5.alloc Z5.size (.cells #[.int .i64 1, .int .i64 3, .int .i64 5] 3)
  refine (same_true Ab cb [1, 3, 5] v4.heap.size w10 _ rfl hrb Y5 (Bk.new v4 3 _) (by decide)).mono ?_
  rintro e v5 ⟨rfl, hv5⟩
  have Z6 := Y5.trans (hv5.mono Y5.size)
  have kXf := kX10.below Z6 kX10.lt
  have x0 := kXf.cell 0
  have x1 := kXf.cell 1
  have x2 := kXf.cell 2
  have x3 := kXf.cell 3
  have xl := kXf.lt
  simp only [List.getElem?_toArray, List.getElem?_cons_zero, List.getElem?_cons_succ] at x0 x1 x2 x3
  go_wp2_with fail
  go_ret
  exact ⟨rfl, hB10.trans (Z6.mono hB10.size)⟩

end Go.Proofs.Yteiaofgkmgllcaa
