/-
  LineRigid: the law's walk.
-/
import Derived.Test.YtppfpdhgckghdaaAlive
import Derived.Test.YtppfpdhgckghdaaCons
import Derived.Test.YtppfpdhgckghdaaRigP
import Derived.Test.YtppfpdhgckghdaaRigR
set_option linter.unusedVariables false
set_option linter.unusedSimpArgs false
namespace Go.Proofs.Ytppfpdhgckghdaa
open Go.RowKit Go.Shelf

namespace Ln
theorem rgK_each {bs : List Bd} {N k : Nat} (hk : k ≤ N) : ∀ l ∈ (rgK bs N k).1, l.length ≤ N + 1 := by
  induction k with
  | zero => intro l hl; cases hl
  | succ k ih =>
    rw [rgK_succ, rgS]
    split
    · exact ih (by omega)
    · intro l hl
      rcases List.mem_append.1 hl with h | h
      · exact ih (by omega) l h
      · simp only [List.mem_singleton] at h
        subst h
        have := mbr_length bs N k N
        simp [cls]
        exact this
theorem rgF_len14 {N : Int} {bs : List Bd} (h14 : check N bs = 0 → N ≤ 14) : (rgF N bs).1.length ≤ 128 ∧ ∀ l ∈ (rgF N bs).1, l.length ≤ 128 := by
  by_cases h : soundF N bs [] = 0
  · have := h14 (sound_zero h).2.2
    rw [rgF, if_pos h]
    refine ⟨by have := rgK_length bs N.toNat N.toNat; dsimp only; omega, fun l hl => ?_⟩
    have := rgK_each (bs := bs) (Nat.le_refl N.toNat) l hl
    omega
  · rw [rgF_bad h]
    exact ⟨by simp, fun l hl => by cases hl⟩
end Ln

set_option maxRecDepth 100000 in
set_option maxHeartbeats 4000000 in
theorem lineRigid_any (N : Int) (A : Option Addr) (c : Nat) (bs : List Ln.Bd) (w : World) (hR : Rd w w.heap.size 4 A bs.length (bcells bs)) (hn : bs.length ≤ 9223372036854775807) (hlv : ∀ x ∈ bs, x.gone = false) :
    Calls Try.prog 8 #[.agg #[.int .i64 N, .slice A bs.length c]] w fun e w' => e = .returned (.bool true) ∧ Below w.heap.size w w' := by
  have s0 := Sy.new (w := w) N c hR
  rcases hf : Ln.fewF N bs.length 14 40 with _ | _
  · have HF := Lib.hid hf
    clear hf
    go_enter Try.func8, Try.ntmps8
    go_wp2_with fail
    refine (some_law N A bs.length c hn _).mono ?_
    rw [HF.out]
    rintro e w1 ⟨rfl, hb1⟩
    have s1 := s0.step hb1
    go_wp2_with fail
    refine (alive_any _).mono ?_
    rintro e w2 ⟨rfl, hb2⟩
    have s2 := s1.step hb2
    go_wp2_with fail
    go_ret
    exact ⟨rfl, s2.bl⟩
  · have hlen := Ln.fewF_len hf (by omega)
    have hLv : Ln.Lv bs := ⟨by omega, hlv⟩
    have h14 : Ln.check N bs = 0 → N ≤ 14 := fun h => (Ln.fewF_ok hf h).1
    have b1 := fun A c w h => rigid_any N A c bs w h hLv
    have b2 := fun A c w h => rrigid_any N A c bs w h hLv h14
    obtain ⟨hl1, hl2⟩ := Ln.rgF_len14 (bs := bs) h14
    obtain ⟨X, hX⟩ : ∃ X, Ln.rgF N bs = X := ⟨_, rfl⟩
    rw [hX] at b1 b2 hl1 hl2
    obtain ⟨L, ex⟩ := X
    dsimp only at b1 b2 hl1 hl2
    have hsl := fun V1 V2 w h1 h2 => sameLists_any V1 V2 L w h1 h2 (by omega) (fun l hl => by have := hl2 l hl; omega)
    have B1 := Lib.hid b1
    have B2 := Lib.hid b2
    have HSL := Lib.hid hsl
    have HF := Lib.hid hf
    clear b1 b2 hsl hX hf h14 hlen hLv hlv hl1 hl2
    go_enter Try.func8, Try.ntmps8
    go_wp2_with fail
    refine (some_law N A bs.length c hn _).mono ?_
    rw [HF.out]
    rintro e w1 ⟨rfl, hb1⟩
    have s1 := s0.step hb1
    obtain ⟨c0, c1, cl⟩ := s1.cells
    go_wp2_with fail
    refine (B1.out _ _ _ s1.rd).mono ?_
    rintro e w2 ⟨V1, rfl, g1, hb2⟩
    have s2 := s1.step hb2
    clear c0 c1 cl
    obtain ⟨c0, c1, cl⟩ := s2.cells
    have H1 := Lib.hid g1
    clear g1
    go_wp2_with fail
    refine (B2.out _ _ _ s2.rd).mono ?_
    rintro e w3 ⟨V2, rfl, g2, hb3⟩
    have s3 := s2.step hb3
    have H13 := Lib.hid (H1.out.below hb3)
    have H2 := Lib.hid g2
    clear c0 c1 cl g2 H1
    go_wp2_with fail
    refine (alive_any _).mono ?_
    rintro e w4 ⟨rfl, hb4⟩
    have s4 := s3.step hb4
    have hcall := HSL.out V1 V2 w4 (H13.out.below hb4) (H2.out.below hb4)
    have HC := Lib.hid hcall
    clear hcall
    go_wp2_with fail
    refine HC.out.mono ?_
    rintro e w5 ⟨rfl, hb5⟩
    have s5 := s4.step hb5
    go_wp2_with fail
    go_ret
    exact ⟨rfl, s5.bl⟩

end Go.Proofs.Ytppfpdhgckghdaa
