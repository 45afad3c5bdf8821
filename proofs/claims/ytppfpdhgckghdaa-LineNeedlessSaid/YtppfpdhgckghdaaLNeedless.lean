/-
  LineNeedless: the law's walk.
-/
import Derived.Test.YtppfpdhgckghdaaAlive
import Derived.Test.YtppfpdhgckghdaaCons
import Derived.Test.YtppfpdhgckghdaaNeed
import Derived.Test.YtppfpdhgckghdaaNdlR
import Derived.Test.YtppfpdhgckghdaaRefA
set_option linter.unusedVariables false
set_option linter.unusedSimpArgs false
namespace Go.Proofs.Ytppfpdhgckghdaa
open Go.RowKit Go.Shelf

theorem Ln.ndF_len8 {N : Int} {bs : List Ln.Bd} (hl : bs.length ≤ 2005) : (Ln.ndF N bs).1.length ≤ 2005 := by
  by_cases h : Ln.soundF N bs [] = 0
  · rw [Ln.ndF_ok h]
    obtain ⟨hok, _⟩ := Ln.ok_of_check (Ln.sound_zero h).2.2
    have := Ln.ndK_length hok bs.length
    simp only [List.length_reverse]
    omega
  · rw [Ln.ndF, if_neg h]
    simp

set_option maxRecDepth 100000 in
set_option maxHeartbeats 4000000 in
theorem lineNeedless_any (N : Int) (A : Option Addr) (c : Nat) (bs : List Ln.Bd) (w : World) (hR : Rd w w.heap.size 4 A bs.length (bcells bs)) (hn : bs.length ≤ 9223372036854775807) (hlv : ∀ x ∈ bs, x.gone = false) :
    Calls Try.prog 9 #[.agg #[.int .i64 N, .slice A bs.length c]] w fun e w' => e = .returned (.bool true) ∧ Below w.heap.size w w' := by
  have s0 := Sy.new (w := w) N c hR
  rcases hf : Ln.fewF N bs.length 8 14 with _ | _
  · have HF := Lib.hid hf
    clear hf
    go_enter Try.func9, Try.ntmps9
    go_wp2_with fail
    refine (few_law N A bs.length c hn _).mono ?_
    rw [HF.out]
    rintro e w1 ⟨rfl, hb1⟩
    have s1 := s0.step hb1
    go_wp2_with fail
    refine (alive_any _).mono ?_
    rintro e w2 ⟨rfl, hb2⟩
    have s2 := s1.step hb2
    go_wp2_with fail
    go_ret
    exact ⟨rfl, s2.bl⟩
  · have hlen := Ln.fewF_len hf (by omega)
    have hLv : Ln.Lv bs := ⟨by omega, hlv⟩
    have h14 : Ln.check N bs = 0 → N ≤ 14 := fun h => by have := (Ln.fewF_ok hf h).1; omega
    have b1 := fun A c w h => needless_any N A c bs w h hLv
    have b2 := fun A c w h => rneedless_any N A c bs w h hLv h14
    have hl1 := Ln.ndF_len8 (N := N) hlen
    obtain ⟨X, hX⟩ : ∃ X, Ln.ndF N bs = X := ⟨_, rfl⟩
    rw [hX] at b1 b2 hl1
    obtain ⟨L, ex⟩ := X
    dsimp only at b1 b2 hl1
    have B1 := Lib.hid b1
    have B2 := Lib.hid b2
    have HF := Lib.hid hf
    clear b1 b2 hX hf h14 hlen hLv hlv
    go_enter Try.func9, Try.ntmps9
    go_wp2_with fail
    refine (few_law N A bs.length c hn _).mono ?_
    rw [HF.out]
    rintro e w1 ⟨rfl, hb1⟩
    have s1 := s0.step hb1
    obtain ⟨c0, c1, cl⟩ := s1.cells
    go_wp2_with fail
    refine (B1.out _ _ _ s1.rd).mono ?_
    rintro e w2 ⟨A1, d1, rfl, r1, hb2⟩
    have s2 := s1.step hb2
    clear c0 c1 cl
    obtain ⟨c0, c1, cl⟩ := s2.cells
    go_wp2_with fail
    refine (B2.out _ _ _ s2.rd).mono ?_
    rintro e w3 ⟨A2, d2, rfl, r2, hb3⟩
    have s3 := s2.step hb3
    have r1' := (r1.below hb3 (Nat.le_refl _)).more hb3.size
    clear c0 c1 cl r1
    go_wp2_with fail
    refine (alive_any _).mono ?_
    rintro e w4 ⟨rfl, hb4⟩
    have s4 := s3.step hb4
    have q1 := (r1'.below hb4 (Nat.le_refl _)).more hb4.size
    have q2 := (r2.below hb4 (Nat.le_refl _)).more hb4.size
    rw [nlist_ints] at q1 q2
    have hsm := sameInts_any A1 d1 (Ln.zl L) A2 d2 (Ln.zl L) w4 (by rw [Ln.zl_length]; exact q1) (by rw [Ln.zl_length]; exact q2) (by rw [Ln.zl_length]; omega) (by rw [Ln.zl_length]; omega)
    rw [show sameI (Ln.zl L) (Ln.zl L) = true from by unfold sameI; simp, Ln.zl_length] at hsm
    have HSM := Lib.hid hsm
    clear hsm q1 q2 r1' r2
    go_wp2_with fail
    refine HSM.out.mono ?_
    rintro e w5 ⟨rfl, hb5⟩
    have s5 := s4.step hb5
    go_wp2_with fail
    go_ret
    exact ⟨rfl, s5.bl⟩

end Go.Proofs.Ytppfpdhgckghdaa
