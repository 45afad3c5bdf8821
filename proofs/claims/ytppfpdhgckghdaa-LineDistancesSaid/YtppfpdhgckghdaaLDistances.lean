/-
  LineDistances: the law's walk.
-/
import Derived.Test.YtppfpdhgckghdaaAlive
import Derived.Test.YtppfpdhgckghdaaDsP
import Derived.Test.YtppfpdhgckghdaaRefA
import Derived.Test.YtppfpdhgckghdaaCons
import Derived.Test.YtppfpdhgckghdaaDsR
set_option linter.unusedVariables false
set_option linter.unusedSimpArgs false
namespace Go.Proofs.Ytppfpdhgckghdaa
open Go.RowKit Go.Shelf

namespace Ln
theorem dsF_len14 {N : Int} {bs : List Bd} {a : Int} (h14 : check N bs = 0 → N ≤ 14) : (dsF N bs a).1.length ≤ 128 ∧ (dsF N bs a).2.1.length ≤ 128 := by
  by_cases h : soundF N bs [a] = 0
  · exact dsF_len (by have := h14 (sound_zero h).2.2; omega)
  · rw [dsF, if_neg h]
    exact ⟨by simp, by simp⟩
end Ln

set_option maxRecDepth 100000 in
set_option maxHeartbeats 4000000 in
theorem lineDistances_any (N : Int) (A : Option Addr) (c : Nat) (bs : List Ln.Bd) (a b : Int) (w : World) (hR : Rd w w.heap.size 4 A bs.length (bcells bs)) (hn : bs.length ≤ 9223372036854775807) (hlv : ∀ x ∈ bs, x.gone = false) :
    Calls Try.prog 5 #[.agg #[.int .i64 N, .slice A bs.length c], .int .i64 a, .int .i64 b] w fun e w' => e = .returned (.bool true) ∧ Below w.heap.size w w' := by
  have s0 := Sy.new (w := w) N c hR
  rcases hf : Ln.fewF N bs.length 14 40 with _ | _
  · have HF := Lib.hid hf
    clear hf
    go_enter Try.func5, Try.ntmps5
    go_wp2_with fail
    refine (some_law N A bs.length c hn _).mono ?_
    rw [HF.out]
    rintro e w1 ⟨rfl, hb1⟩
    have s1 := s0.step hb1
    go_wp2_with fail
    refine (alive_any _).mono ?_
    rintro e w2 ⟨rfl, hb2⟩
    have s2 := s1.step hb2
    go_wp2_with fail
    go_ret
    exact ⟨rfl, s2.bl⟩
  · have hlen := Ln.fewF_len hf (by omega)
    have hLv : Ln.Lv bs := ⟨by omega, hlv⟩
    have h14 : Ln.check N bs = 0 → N ≤ 14 := fun h => (Ln.fewF_ok hf h).1
    have b1 := fun A c w h => distance_any N A c bs a b w h hLv
    have b2 := fun A c w h => rdistance_any N A c bs a b w h hLv h14
    have b3 := fun A c w h => ldistances_any N A c bs a w h hLv
    have b4 := fun A c w h => rdistances_any N A c bs a w h hLv h14
    obtain ⟨hl1, hl2⟩ := Ln.dsF_len14 (bs := bs) (a := a) h14
    obtain ⟨X, hX⟩ : ∃ X, Ln.diF N bs a b = X := ⟨_, rfl⟩
    obtain ⟨Y, hY⟩ : ∃ Y, Ln.dsF N bs a = Y := ⟨_, rfl⟩
    rw [hX] at b1 b2
    rw [hY] at b3 b4 hl1 hl2
    obtain ⟨d, is, ex⟩ := X
    obtain ⟨dl, df, ey⟩ := Y
    dsimp only at b1 b2 b3 b4 hl1 hl2
    have B1 := Lib.hid b1
    have B2 := Lib.hid b2
    have B3 := Lib.hid b3
    have B4 := Lib.hid b4
    have HF := Lib.hid hf
    clear b1 b2 b3 b4 hX hY hf h14 hlen hLv hlv
    go_enter Try.func5, Try.ntmps5
    go_wp2_with fail
    refine (some_law N A bs.length c hn _).mono ?_
    rw [HF.out]
    rintro e w1 ⟨rfl, hb1⟩
    have s1 := s0.step hb1
    obtain ⟨c0, c1, cl⟩ := s1.cells
    go_wp2_with fail
    refine (B1.out _ _ _ s1.rd).mono ?_
    rintro e w2 ⟨rfl, hb2⟩
    have s2 := s1.step hb2
    clear c0 c1 cl
    obtain ⟨c0, c1, cl⟩ := s2.cells
    go_wp2_with fail
    refine (B2.out _ _ _ s2.rd).mono ?_
    rintro e w3 ⟨rfl, hb3⟩
    have s3 := s2.step hb3
    clear c0 c1 cl
    obtain ⟨c0, c1, cl⟩ := s3.cells
    go_wp2_with fail
    refine (B3.out _ _ _ s3.rd).mono ?_
    rintro e w4 ⟨A3, c3, A4, c4, rfl, r3, r4, hb4⟩
    have s4 := s3.step hb4
    clear c0 c1 cl
    obtain ⟨c0, c1, cl⟩ := s4.cells
    go_wp2_with fail
    refine (B4.out _ _ _ s4.rd).mono ?_
    rintro e w5 ⟨A5, c5, A6, c6, rfl, r5, r6, hb5⟩
    have s5 := s4.step hb5
    have r3' := (r3.below hb5 (Nat.le_refl _)).more hb5.size
    have r4' := (r4.below hb5 (Nat.le_refl _)).more hb5.size
    clear c0 c1 cl r3 r4
    go_wp2_with fail
    refine (alive_any _).mono ?_
    rintro e w6 ⟨rfl, hb6⟩
    have s6 := s5.step hb6
    have q3 := (r3'.below hb6 (Nat.le_refl _)).more hb6.size
    have q4 := (r4'.below hb6 (Nat.le_refl _)).more hb6.size
    have q5 := (r5.below hb6 (Nat.le_refl _)).more hb6.size
    have q6 := (r6.below hb6 (Nat.le_refl _)).more hb6.size
    have hsm := sameInts_any A3 c3 dl A5 c5 dl w6 q3 q5 (by omega) (by omega)
    rw [show sameI dl dl = true from by unfold sameI; simp] at hsm
    have HSM := Lib.hid hsm
    clear hsm r3' r4' r5 r6 q3 q5
    go_wp2_with fail
    refine HSM.out.mono ?_
    rintro e w7 ⟨rfl, hb7⟩
    have s7 := s6.step hb7
    have hsf := sameFlags_any A4 c4 A6 c6 df w7 ((q4.below hb7 (Nat.le_refl _)).more hb7.size) ((q6.below hb7 (Nat.le_refl _)).more hb7.size) (by omega)
    have HSF := Lib.hid hsf
    clear hsf q4 q6
    go_wp2_with fail
    refine HSF.out.mono ?_
    rintro e w8 ⟨rfl, hb8⟩
    have s8 := s7.step hb8
    go_wp2_with fail
    go_ret
    exact ⟨rfl, s8.bl⟩

end Go.Proofs.Ytppfpdhgckghdaa
