/-
  LineValues: the law's walk.
-/
import Derived.Test.YtppfpdhgckghdaaAlive
import Derived.Test.YtppfpdhgckghdaaRefA
import Derived.Test.YtppfpdhgckghdaaCons
import Derived.Test.YtppfpdhgckghdaaGreR
import Derived.Test.YtppfpdhgckghdaaSomL
set_option linter.unusedVariables false
set_option linter.unusedSimpArgs false
namespace Go.Proofs.Ytppfpdhgckghdaa
open Go.RowKit Go.Shelf

namespace Ln
theorem grF_len14 {N : Int} {bs : List Bd} (h14 : check N bs = 0 → N ≤ 14) : (grF N bs).1.length ≤ 128 := by
  unfold grF
  split
  · rename_i hs
    have := h14 (sound_zero hs).2.2
    split
    · simp
    · rw [List.length_take]; omega
  · simp
theorem leF_len14 {N : Int} {bs : List Bd} (h14 : check N bs = 0 → N ≤ 14) : (leF N bs).1.length ≤ 128 := by
  unfold leF
  dsimp only
  rw [List.length_map]
  exact grF_len14 (fun h => h14 (by rw [check_rev] at h; exact h))
theorem someF_len14 {N : Int} {bs : List Bd} (h14 : check N bs = 0 → N ≤ 14) : (someF N bs).1.length ≤ 128 := by
  unfold someF
  split
  · rename_i hs
    have := h14 (sound_zero hs).2.2
    rw [valF_length]; omega
  · simp
theorem thF_len14 {N : Int} {bs : List Bd} {p v : Int} (h14 : check N bs = 0 → N ≤ 14) : (thF N bs p v).1.length ≤ 128 := by
  unfold thF
  split
  · rename_i hs
    have := h14 (cpF_zero hs)
    split
    · split
      · rw [valF_length]; omega
      · simp
    · simp
  · simp
end Ln

set_option maxRecDepth 100000 in
set_option maxHeartbeats 4000000 in
theorem lineValues_any (N : Int) (A : Option Addr) (c : Nat) (bs : List Ln.Bd) (p v : Int) (w : World) (hR : Rd w w.heap.size 4 A bs.length (bcells bs)) (hn : bs.length ≤ 9223372036854775807) (hlv : ∀ x ∈ bs, x.gone = false) :
    Calls Try.prog 7 #[.agg #[.int .i64 N, .slice A bs.length c], .int .i64 p, .int .i64 v] w fun e w' => e = .returned (.bool true) ∧ Below w.heap.size w w' := by
  have s0 := Sy.new (w := w) N c hR
  rcases hf : Ln.fewF N bs.length 14 40 with _ | _
  · have HF := Lib.hid hf
    clear hf
    go_enter Try.func7, Try.ntmps7
    go_wp2_with fail
    refine (some_law N A bs.length c hn _).mono ?_
    rw [HF.out]
    rintro e w1 ⟨rfl, hb1⟩
    have s1 := s0.step hb1
    go_wp2_with fail
    refine (alive_any _).mono ?_
    rintro e w2 ⟨rfl, hb2⟩
    have s2 := s1.step hb2
    go_wp2_with fail
    go_ret
    exact ⟨rfl, s2.bl⟩
  · have hlen := Ln.fewF_len hf (by omega)
    have hLv : Ln.Lv bs := ⟨by omega, hlv⟩
    have h14 : Ln.check N bs = 0 → N ≤ 14 := fun h => (Ln.fewF_ok hf h).1
    have b1 := fun A c w h => greatest_any N A c bs w h hLv
    have b2 := fun A c w h => rgreatest_any N A c bs w h hLv h14
    have b3 := fun A c w h => least_any N A c bs w h hLv
    have b4 := fun A c w h => rleast_any N A c bs w h hLv h14
    have b5 := fun A c w h => some_any N A c bs w h hLv
    have b6 := fun A c w h => rSome_any N A c bs w h hLv h14
    have b7 := fun A c w h => through_any N A c bs p v w h hLv
    have b8 := fun A c w h => rThrough_any N A c bs p v w h hLv h14
    have n1 := Ln.grF_len14 (bs := bs) h14
    have n2 := Ln.leF_len14 (bs := bs) h14
    have n3 := Ln.someF_len14 (bs := bs) h14
    have n4 := Ln.thF_len14 (bs := bs) (p := p) (v := v) h14
    obtain ⟨X1, h1⟩ : ∃ X, Ln.grF N bs = X := ⟨_, rfl⟩
    obtain ⟨X2, h2⟩ : ∃ X, Ln.leF N bs = X := ⟨_, rfl⟩
    obtain ⟨X3, h3⟩ : ∃ X, Ln.someF N bs = X := ⟨_, rfl⟩
    obtain ⟨X4, h4⟩ : ∃ X, Ln.thF N bs p v = X := ⟨_, rfl⟩
    rw [h1] at b1 b2 n1
    rw [h2] at b3 b4 n2
    rw [h3] at b5 b6 n3
    rw [h4] at b7 b8 n4
    obtain ⟨l1, e1⟩ := X1
    obtain ⟨l2, e2⟩ := X2
    obtain ⟨l3, e3⟩ := X3
    obtain ⟨l4, is4, e4⟩ := X4
    dsimp only at b1 b2 b3 b4 b5 b6 b7 b8 n1 n2 n3 n4
    have B1 := Lib.hid b1
    have B2 := Lib.hid b2
    have B3 := Lib.hid b3
    have B4 := Lib.hid b4
    have B5 := Lib.hid b5
    have B6 := Lib.hid b6
    have B7 := Lib.hid b7
    have B8 := Lib.hid b8
    have HF := Lib.hid hf
    clear b1 b2 b3 b4 b5 b6 b7 b8 h1 h2 h3 h4 hf h14 hlen hLv hlv
    go_enter Try.func7, Try.ntmps7
    go_wp2_with fail
    refine (some_law N A bs.length c hn _).mono ?_
    rw [HF.out]
    rintro e w1 ⟨rfl, hb1⟩
    have s1 := s0.step hb1
    obtain ⟨c0, c1, cl⟩ := s1.cells
    go_wp2_with fail
    refine (B1.out _ _ _ s1.rd).mono ?_
    rintro e w2 ⟨V1, rfl, o1, hb2⟩
    obtain ⟨A1, d1, rfl, r1_2⟩ := own_read o1
    clear o1
    have s2 := s1.step hb2
    clear c0 c1 cl
    obtain ⟨c0, c1, cl⟩ := s2.cells
    go_wp2_with fail
    refine (B2.out _ _ _ s2.rd).mono ?_
    rintro e w3 ⟨V2, rfl, o2, hb3⟩
    obtain ⟨A2, d2, rfl, r2_3⟩ := own_read o2
    clear o2
    have s3 := s2.step hb3
    have r1_3 := (r1_2.below hb3 (Nat.le_refl _)).more hb3.size
    clear r1_2
    clear c0 c1 cl
    obtain ⟨c0, c1, cl⟩ := s3.cells
    go_wp2_with fail
    refine (B3.out _ _ _ s3.rd).mono ?_
    rintro e w4 ⟨V3, rfl, o3, hb4⟩
    obtain ⟨A3, d3, rfl, r3_4⟩ := own_read o3
    clear o3
    have s4 := s3.step hb4
    have r1_4 := (r1_3.below hb4 (Nat.le_refl _)).more hb4.size
    have r2_4 := (r2_3.below hb4 (Nat.le_refl _)).more hb4.size
    clear r1_3 r2_3
    clear c0 c1 cl
    obtain ⟨c0, c1, cl⟩ := s4.cells
    go_wp2_with fail
    refine (B4.out _ _ _ s4.rd).mono ?_
    rintro e w5 ⟨V4, rfl, o4, hb5⟩
    obtain ⟨A4, d4, rfl, r4_5⟩ := own_read o4
    clear o4
    have s5 := s4.step hb5
    have r1_5 := (r1_4.below hb5 (Nat.le_refl _)).more hb5.size
    have r2_5 := (r2_4.below hb5 (Nat.le_refl _)).more hb5.size
    have r3_5 := (r3_4.below hb5 (Nat.le_refl _)).more hb5.size
    clear r1_4 r2_4 r3_4
    clear c0 c1 cl
    obtain ⟨c0, c1, cl⟩ := s5.cells
    go_wp2_with fail
    refine (B5.out _ _ _ s5.rd).mono ?_
    rintro e w6 ⟨A5, d5, rfl, r5_6, hb6⟩
    have s6 := s5.step hb6
    have r1_6 := (r1_5.below hb6 (Nat.le_refl _)).more hb6.size
    have r2_6 := (r2_5.below hb6 (Nat.le_refl _)).more hb6.size
    have r3_6 := (r3_5.below hb6 (Nat.le_refl _)).more hb6.size
    have r4_6 := (r4_5.below hb6 (Nat.le_refl _)).more hb6.size
    clear r1_5 r2_5 r3_5 r4_5
    clear c0 c1 cl
    obtain ⟨c0, c1, cl⟩ := s6.cells
    go_wp2_with fail
    refine (B6.out _ _ _ s6.rd).mono ?_
    rintro e w7 ⟨A6, d6, rfl, r6_7, hb7⟩
    have s7 := s6.step hb7
    have r1_7 := (r1_6.below hb7 (Nat.le_refl _)).more hb7.size
    have r2_7 := (r2_6.below hb7 (Nat.le_refl _)).more hb7.size
    have r3_7 := (r3_6.below hb7 (Nat.le_refl _)).more hb7.size
    have r4_7 := (r4_6.below hb7 (Nat.le_refl _)).more hb7.size
    have r5_7 := (r5_6.below hb7 (Nat.le_refl _)).more hb7.size
    clear r1_6 r2_6 r3_6 r4_6 r5_6
    clear c0 c1 cl
    obtain ⟨c0, c1, cl⟩ := s7.cells
    go_wp2_with fail
    refine (B7.out _ _ _ s7.rd).mono ?_
    rintro e w8 ⟨A7, d7, rfl, r7_8, hb8⟩
    have s8 := s7.step hb8
    have r1_8 := (r1_7.below hb8 (Nat.le_refl _)).more hb8.size
    have r2_8 := (r2_7.below hb8 (Nat.le_refl _)).more hb8.size
    have r3_8 := (r3_7.below hb8 (Nat.le_refl _)).more hb8.size
    have r4_8 := (r4_7.below hb8 (Nat.le_refl _)).more hb8.size
    have r5_8 := (r5_7.below hb8 (Nat.le_refl _)).more hb8.size
    have r6_8 := (r6_7.below hb8 (Nat.le_refl _)).more hb8.size
    clear r1_7 r2_7 r3_7 r4_7 r5_7 r6_7
    clear c0 c1 cl
    obtain ⟨c0, c1, cl⟩ := s8.cells
    go_wp2_with fail
    refine (B8.out _ _ _ s8.rd).mono ?_
    rintro e w9 ⟨A8, d8, rfl, r8_9, hb9⟩
    have s9 := s8.step hb9
    have r1_9 := (r1_8.below hb9 (Nat.le_refl _)).more hb9.size
    have r2_9 := (r2_8.below hb9 (Nat.le_refl _)).more hb9.size
    have r3_9 := (r3_8.below hb9 (Nat.le_refl _)).more hb9.size
    have r4_9 := (r4_8.below hb9 (Nat.le_refl _)).more hb9.size
    have r5_9 := (r5_8.below hb9 (Nat.le_refl _)).more hb9.size
    have r6_9 := (r6_8.below hb9 (Nat.le_refl _)).more hb9.size
    have r7_9 := (r7_8.below hb9 (Nat.le_refl _)).more hb9.size
    clear r1_8 r2_8 r3_8 r4_8 r5_8 r6_8 r7_8
    clear c0 c1 cl
    obtain ⟨c0, c1, cl⟩ := s9.cells
    go_wp2_with fail
    refine (alive_any _).mono ?_
    rintro e w10 ⟨rfl, hb10⟩
    have s10 := s9.step hb10
    clear c0 c1 cl
    have r1_10 := (r1_9.below hb10 (Nat.le_refl _)).more hb10.size
    have r2_10 := (r2_9.below hb10 (Nat.le_refl _)).more hb10.size
    have r3_10 := (r3_9.below hb10 (Nat.le_refl _)).more hb10.size
    have r4_10 := (r4_9.below hb10 (Nat.le_refl _)).more hb10.size
    have r5_10 := (r5_9.below hb10 (Nat.le_refl _)).more hb10.size
    have r6_10 := (r6_9.below hb10 (Nat.le_refl _)).more hb10.size
    have r7_10 := (r7_9.below hb10 (Nat.le_refl _)).more hb10.size
    have r8_10 := (r8_9.below hb10 (Nat.le_refl _)).more hb10.size
    clear r1_9 r2_9 r3_9 r4_9 r5_9 r6_9 r7_9 r8_9
    have hs0 := sameInts_any A1 d1 l1 A2 d2 l1 w10 r1_10 r2_10 (by omega) (by omega)
    rw [show sameI l1 l1 = true from by unfold sameI; simp] at hs0
    have HS0 := Lib.hid hs0
    clear hs0 r1_10 r2_10
    go_wp2_with fail
    refine HS0.out.mono ?_
    rintro e w11 ⟨rfl, hb11⟩
    have s11 := s10.step hb11
    have r3_11 := (r3_10.below hb11 (Nat.le_refl _)).more hb11.size
    have r4_11 := (r4_10.below hb11 (Nat.le_refl _)).more hb11.size
    have r5_11 := (r5_10.below hb11 (Nat.le_refl _)).more hb11.size
    have r6_11 := (r6_10.below hb11 (Nat.le_refl _)).more hb11.size
    have r7_11 := (r7_10.below hb11 (Nat.le_refl _)).more hb11.size
    have r8_11 := (r8_10.below hb11 (Nat.le_refl _)).more hb11.size
    clear r3_10 r4_10 r5_10 r6_10 r7_10 r8_10
    have hs1 := sameInts_any A3 d3 l2 A4 d4 l2 w11 r3_11 r4_11 (by omega) (by omega)
    rw [show sameI l2 l2 = true from by unfold sameI; simp] at hs1
    have HS1 := Lib.hid hs1
    clear hs1 r3_11 r4_11
    go_wp2_with fail
    refine HS1.out.mono ?_
    rintro e w12 ⟨rfl, hb12⟩
    have s12 := s11.step hb12
    have r5_12 := (r5_11.below hb12 (Nat.le_refl _)).more hb12.size
    have r6_12 := (r6_11.below hb12 (Nat.le_refl _)).more hb12.size
    have r7_12 := (r7_11.below hb12 (Nat.le_refl _)).more hb12.size
    have r8_12 := (r8_11.below hb12 (Nat.le_refl _)).more hb12.size
    clear r5_11 r6_11 r7_11 r8_11
    have hs2 := sameInts_any A5 d5 l3 A6 d6 l3 w12 r5_12 r6_12 (by omega) (by omega)
    rw [show sameI l3 l3 = true from by unfold sameI; simp] at hs2
    have HS2 := Lib.hid hs2
    clear hs2 r5_12 r6_12
    go_wp2_with fail
    refine HS2.out.mono ?_
    rintro e w13 ⟨rfl, hb13⟩
    have s13 := s12.step hb13
    have r7_13 := (r7_12.below hb13 (Nat.le_refl _)).more hb13.size
    have r8_13 := (r8_12.below hb13 (Nat.le_refl _)).more hb13.size
    clear r7_12 r8_12
    have hs3 := sameInts_any A7 d7 l4 A8 d8 l4 w13 r7_13 r8_13 (by omega) (by omega)
    rw [show sameI l4 l4 = true from by unfold sameI; simp] at hs3
    have HS3 := Lib.hid hs3
    clear hs3 r7_13 r8_13
    go_wp2_with fail
    refine HS3.out.mono ?_
    rintro e w14 ⟨rfl, hb14⟩
    have s14 := s13.step hb14
    go_wp2_with fail
    go_ret
    exact ⟨rfl, s14.bl⟩

end Go.Proofs.Ytppfpdhgckghdaa
