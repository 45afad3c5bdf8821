/-
  LineRanges: the law's walk.
-/
import Derived.Test.YtdndhfggdjphjaaAlive
import Derived.Test.YtdndhfggdjphjaaCons
import Derived.Test.YtdndhfggdjphjaaBtR
set_option linter.unusedVariables false
set_option linter.unusedSimpArgs false
namespace Go.Proofs.Ytdndhfggdjphjaa
open Go.RowKit Go.Shelf

set_option maxRecDepth 100000 in
set_option maxHeartbeats 4000000 in
theorem lineRanges_any (N : Int) (A : Option Addr) (c : Nat) (bs : List Ln.Bd) (a b : Int) (w : World) (hR : Rd w w.heap.size 4 A bs.length (bcells bs)) (hn : bs.length ≤ 9223372036854775807) (hlv : ∀ x ∈ bs, x.gone = false) :
    Calls Try.prog 3 #[.agg #[.int .i64 N, .slice A bs.length c], .int .i64 a, .int .i64 b] w fun e w' => e = .returned (.bool true) ∧ Below w.heap.size w w' := by
  have s0 := Sy.new (w := w) N c hR
  rcases hf : Ln.fewF N bs.length 14 40 with _ | _
  · have HF := Lib.hid hf
    clear hf
    go_enter Try.func3, Try.ntmps3
    go_wp2_with fail
    refine (some_law N A bs.length c hn _).mono ?_
    rw [HF.out]
    rintro e w1 ⟨rfl, hb1⟩
    have s1 := s0.step hb1
    go_wp2_with fail
    refine (alive_any _).mono ?_
    rintro e w2 ⟨rfl, hb2⟩
    have s2 := s1.step hb2
    go_wp2_with fail
    go_ret
    exact ⟨rfl, s2.bl⟩
  · have hlen := Ln.fewF_len hf (by omega)
    have hLv : Ln.Lv bs := ⟨by omega, hlv⟩
    have h14 : Ln.check N bs = 0 → N ≤ 14 := fun h => (Ln.fewF_ok hf h).1
    have b1 := fun A c w h => range_any N A c bs a w h hLv
    have b2 := fun A c w h => rrange_any N A c bs a w h14 h hLv
    have b3 := fun A c w h => between_any N A c bs a b w h hLv
    have b4 := fun A c w h => rbetween_any N A c bs a b w h hLv h14
    obtain ⟨X, hX⟩ : ∃ X, Ln.btF N bs 0 a = X := ⟨_, rfl⟩
    obtain ⟨Y, hY⟩ : ∃ Y, Ln.btF N bs a b = Y := ⟨_, rfl⟩
    rw [hX] at b1 b2
    rw [hY] at b3 b4
    obtain ⟨⟨lx1, lx2⟩, ⟨hx1, hx2⟩, ex⟩ := X
    obtain ⟨⟨ly1, ly2⟩, ⟨hy1, hy2⟩, ey⟩ := Y
    dsimp only at b1 b2 b3 b4
    have B1 := Lib.hid b1
    have B2 := Lib.hid b2
    have B3 := Lib.hid b3
    have B4 := Lib.hid b4
    have HF := Lib.hid hf
    clear b1 b2 b3 b4 hX hY hf h14 hlen hLv hlv
    go_enter Try.func3, Try.ntmps3
    go_wp2_with fail
    refine (some_law N A bs.length c hn _).mono ?_
    rw [HF.out]
    rintro e w1 ⟨rfl, hb1⟩
    have s1 := s0.step hb1
    obtain ⟨c0, c1, cl⟩ := s1.cells
    go_wp2_with fail
    refine (B1.out _ _ _ s1.rd).mono ?_
    rintro e w2 ⟨rfl, hb2⟩
    have s2 := (s1.step hb2).alloc (.cells #[.int .i64 lx1, .int .i64 hx1, .bool lx2, .bool hx2] 28)
    have k0_2 := Bk.new w2 28 #[.int .i64 lx1, .int .i64 hx1, .bool lx2, .bool hx2]
    unfold spanV
    clear c0 c1 cl
    obtain ⟨c0, c1, cl⟩ := s2.cells
    go_wp2_with fail
    obtain ⟨v2, hv2⟩ : ∃ v2, w2.alloc (.cells #[.int .i64 lx1, .int .i64 hx1, .bool lx2, .bool hx2] 28) = v2 := ⟨_, rfl⟩
    obtain ⟨x0, hq0⟩ : ∃ x0, w2.heap.size = x0 := ⟨_, rfl⟩
    rw [hv2] at s2 k0_2 ⊢
    rw [hq0] at k0_2 ⊢
    clear hv2 hq0
    refine (B2.out _ _ _ s2.rd).mono ?_
    rintro e w3 ⟨rfl, hb3⟩
    have s3 := (s2.step hb3).alloc (.cells #[.int .i64 lx1, .int .i64 hx1, .bool lx2, .bool hx2] 28)
    have k0_3 := (k0_2.below hb3 k0_2.lt).alloc (.cells #[.int .i64 lx1, .int .i64 hx1, .bool lx2, .bool hx2] 28)
    have k1_3 := Bk.new w3 28 #[.int .i64 lx1, .int .i64 hx1, .bool lx2, .bool hx2]
    unfold spanV
    clear c0 c1 cl
    obtain ⟨c0, c1, cl⟩ := s3.cells
    go_wp2_with fail
    obtain ⟨v3, hv3⟩ : ∃ v3, w3.alloc (.cells #[.int .i64 lx1, .int .i64 hx1, .bool lx2, .bool hx2] 28) = v3 := ⟨_, rfl⟩
    obtain ⟨x1, hq1⟩ : ∃ x1, w3.heap.size = x1 := ⟨_, rfl⟩
    rw [hv3] at s3 k0_3 k1_3 ⊢
    rw [hq1] at k1_3 ⊢
    clear hv3 hq1
    refine (B3.out _ _ _ s3.rd).mono ?_
    rintro e w4 ⟨rfl, hb4⟩
    have s4 := (s3.step hb4).alloc (.cells #[.int .i64 ly1, .int .i64 hy1, .bool ly2, .bool hy2] 28)
    have k0_4 := (k0_3.below hb4 k0_3.lt).alloc (.cells #[.int .i64 ly1, .int .i64 hy1, .bool ly2, .bool hy2] 28)
    have k1_4 := (k1_3.below hb4 k1_3.lt).alloc (.cells #[.int .i64 ly1, .int .i64 hy1, .bool ly2, .bool hy2] 28)
    have k2_4 := Bk.new w4 28 #[.int .i64 ly1, .int .i64 hy1, .bool ly2, .bool hy2]
    unfold spanV
    clear c0 c1 cl
    obtain ⟨c0, c1, cl⟩ := s4.cells
    go_wp2_with fail
    obtain ⟨v4, hv4⟩ : ∃ v4, w4.alloc (.cells #[.int .i64 ly1, .int .i64 hy1, .bool ly2, .bool hy2] 28) = v4 := ⟨_, rfl⟩
    obtain ⟨x2, hq2⟩ : ∃ x2, w4.heap.size = x2 := ⟨_, rfl⟩
    rw [hv4] at s4 k0_4 k1_4 k2_4 ⊢
    rw [hq2] at k2_4 ⊢
    clear hv4 hq2
    refine (B4.out _ _ _ s4.rd).mono ?_
    rintro e w5 ⟨rfl, hb5⟩
    have s5 := (s4.step hb5).alloc (.cells #[.int .i64 ly1, .int .i64 hy1, .bool ly2, .bool hy2] 28)
    have k0_5 := (k0_4.below hb5 k0_4.lt).alloc (.cells #[.int .i64 ly1, .int .i64 hy1, .bool ly2, .bool hy2] 28)
    have k1_5 := (k1_4.below hb5 k1_4.lt).alloc (.cells #[.int .i64 ly1, .int .i64 hy1, .bool ly2, .bool hy2] 28)
    have k2_5 := (k2_4.below hb5 k2_4.lt).alloc (.cells #[.int .i64 ly1, .int .i64 hy1, .bool ly2, .bool hy2] 28)
    have k3_5 := Bk.new w5 28 #[.int .i64 ly1, .int .i64 hy1, .bool ly2, .bool hy2]
    unfold spanV
    clear c0 c1 cl
    obtain ⟨c0, c1, cl⟩ := s5.cells
    go_wp2_with fail
    obtain ⟨v5, hv5⟩ : ∃ v5, w5.alloc (.cells #[.int .i64 ly1, .int .i64 hy1, .bool ly2, .bool hy2] 28) = v5 := ⟨_, rfl⟩
    obtain ⟨x3, hq3⟩ : ∃ x3, w5.heap.size = x3 := ⟨_, rfl⟩
    rw [hv5] at s5 k0_5 k1_5 k2_5 k3_5 ⊢
    rw [hq3] at k3_5 ⊢
    clear hv5 hq3
    refine (alive_any _).mono ?_
    rintro e w6 ⟨rfl, hb6⟩
    have s6 := s5.step hb6
    have k0_6 := k0_5.below hb6 k0_5.lt
    have k1_6 := k1_5.below hb6 k1_5.lt
    have k2_6 := k2_5.below hb6 k2_5.lt
    have k3_6 := k3_5.below hb6 k3_5.lt
    have g00 := k0_6.cell 0
    have g01 := k0_6.cell 1
    have g02 := k0_6.cell 2
    have g03 := k0_6.cell 3
    have gl0 := k0_6.lt
    have g10 := k1_6.cell 0
    have g11 := k1_6.cell 1
    have g12 := k1_6.cell 2
    have g13 := k1_6.cell 3
    have gl1 := k1_6.lt
    have g20 := k2_6.cell 0
    have g21 := k2_6.cell 1
    have g22 := k2_6.cell 2
    have g23 := k2_6.cell 3
    have gl2 := k2_6.lt
    have g30 := k3_6.cell 0
    have g31 := k3_6.cell 1
    have g32 := k3_6.cell 2
    have g33 := k3_6.cell 3
    have gl3 := k3_6.lt
    simp only [List.getElem?_toArray, List.getElem?_cons_zero, List.getElem?_cons_succ] at g00 g01 g02 g03 g10 g11 g12 g13 g20 g21 g22 g23 g30 g31 g32 g33
    go_wp2_with fail
    go_ret
    exact ⟨rfl, s6.bl⟩

end Go.Proofs.Ytdndhfggdjphjaa
