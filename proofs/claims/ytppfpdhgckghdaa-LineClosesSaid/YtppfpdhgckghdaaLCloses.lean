/-
  LineCloses: the law's walk.
-/
import Derived.Test.YtppfpdhgckghdaaAlive
import Derived.Test.YtppfpdhgckghdaaCons
import Derived.Test.YtppfpdhgckghdaaCloR
import Derived.Test.YtppfpdhgckghdaaSame
set_option linter.unusedVariables false
set_option linter.unusedSimpArgs false
namespace Go.Proofs.Ytppfpdhgckghdaa
open Go.RowKit Go.Shelf

theorem Ln.clsF_len {N : Int} {bs : List Ln.Bd} (h14 : Ln.check N bs = 0 → N ≤ 14) : (Ln.clsF N bs).1.2.length ≤ 2000 := by
  by_cases hz : (Ln.clsF N bs).2 = 0
  · obtain ⟨k1, _, k3⟩ := Ln.cls_ok h14 hz
    rw [k1]
    exact k3.len
  · rw [Ln.clsF_err hz]
    simp

set_option maxRecDepth 100000 in
set_option maxHeartbeats 4000000 in
theorem lineCloses_any (N : Int) (A : Option Addr) (c : Nat) (bs : List Ln.Bd) (w : World) (hR : Rd w w.heap.size 4 A bs.length (bcells bs)) (hn : bs.length ≤ 9223372036854775807) (hlv : ∀ x ∈ bs, x.gone = false) :
    Calls Try.prog 10 #[.agg #[.int .i64 N, .slice A bs.length c]] w fun e w' => e = .returned (.bool true) ∧ Below w.heap.size w w' := by
  have s0 := Sy.new (w := w) N c hR
  rcases hf : Ln.fewF N bs.length 14 40 with _ | _
  · have HF := Lib.hid hf
    clear hf
    go_enter Try.func10, Try.ntmps10
    go_wp2_with fail
    refine (some_law N A bs.length c hn _).mono ?_
    rw [HF.out]
    rintro e w1 ⟨rfl, hb1⟩
    have s1 := s0.step hb1
    go_wp2_with fail
    refine (alive_any _).mono ?_
    rintro e w2 ⟨rfl, hb2⟩
    have s2 := s1.step hb2
    go_wp2_with fail
    go_ret
    exact ⟨rfl, s2.bl⟩
  · have hlen := Ln.fewF_len hf (by omega)
    have hLv : Ln.Lv bs := ⟨by omega, hlv⟩
    have h14 : Ln.check N bs = 0 → N ≤ 14 := fun h => (Ln.fewF_ok hf h).1
    have b1 := fun A c w h => lclose_any N A c bs w h hLv h14
    have b2 := fun A c w h => rclose_any N A c bs w h hLv h14
    have hlc := Ln.clsF_len (bs := bs) h14
    obtain ⟨X, hX⟩ : ∃ X, Ln.clsF N bs = X := ⟨_, rfl⟩
    rw [hX] at b1 b2 hlc
    obtain ⟨⟨M, cs⟩, ex⟩ := X
    dsimp only at b1 b2 hlc
    have hsa := fun A c A2 c2 w h1 h2 => same_any M A c A2 c2 cs w h1 h2 (by omega)
    have B1 := Lib.hid b1
    have B2 := Lib.hid b2
    have H4 := Lib.hid hsa
    have HF := Lib.hid hf
    clear b1 b2 hsa hX hf h14 hlen hLv hlv
    go_enter Try.func10, Try.ntmps10
    go_wp2_with fail
    refine (some_law N A bs.length c hn _).mono ?_
    rw [HF.out]
    rintro e w1 ⟨rfl, hb1⟩
    have s1 := s0.step hb1
    obtain ⟨c0, c1, cl⟩ := s1.cells
    go_wp2_with fail
    refine (B1.out _ _ _ s1.rd).mono ?_
    rintro e w2 ⟨Aj, cj, rfl, hj, hb2⟩
    have s2 := (s1.step hb2).alloc (.cells #[.int .i64 M, .slice Aj cs.length cj] 24)
    have j2 := Sy.new (w := w2) M cj hj
    clear c0 c1 cl
    obtain ⟨c0, c1, cl⟩ := s2.cells
    go_wp2_with fail
    obtain ⟨v2, hv2⟩ : ∃ v2, w2.alloc (.cells #[.int .i64 M, .slice Aj cs.length cj] 24) = v2 := ⟨_, rfl⟩
    obtain ⟨jb, hjb⟩ : ∃ jb, w2.heap.size = jb := ⟨_, rfl⟩
    rw [hv2] at s2 j2 ⊢
    rw [hjb] at j2 ⊢
    clear hv2 hjb c0 c1 cl hj
    refine (B2.out _ _ _ s2.rd).mono ?_
    rintro e w3 ⟨Ak, ck, rfl, hk, hb3⟩
    have s3 := (s2.step hb3).alloc (.cells #[.int .i64 M, .slice Ak cs.length ck] 24)
    have j3 := (j2.from.step hb3).alloc (.cells #[.int .i64 M, .slice Ak cs.length ck] 24)
    have k3 := Sy.new (w := w3) M ck hk
    go_wp2_with fail
    obtain ⟨v3, hv3⟩ : ∃ v3, w3.alloc (.cells #[.int .i64 M, .slice Ak cs.length ck] 24) = v3 := ⟨_, rfl⟩
    obtain ⟨kb, hkb⟩ : ∃ kb, w3.heap.size = kb := ⟨_, rfl⟩
    rw [hv3] at s3 j3 k3 ⊢
    rw [hkb] at k3 ⊢
    clear hv3 hkb hk
    refine (alive_any _).mono ?_
    rintro e w4 ⟨rfl, hb4⟩
    have s4 := s3.step hb4
    have j4 := j3.step hb4
    have k4 := k3.from.step hb4
    obtain ⟨c0, c1, cl⟩ := j4.cells
    obtain ⟨d0, d1, dl⟩ := k4.cells
    go_wp2_with fail
    refine (H4.out _ _ _ _ _ j4.rd k4.rd).mono ?_
    rintro e w5 ⟨rfl, hb5⟩
    have s5 := s4.step hb5
    go_wp2_with fail
    go_ret
    exact ⟨rfl, s5.bl⟩

end Go.Proofs.Ytppfpdhgckghdaa
