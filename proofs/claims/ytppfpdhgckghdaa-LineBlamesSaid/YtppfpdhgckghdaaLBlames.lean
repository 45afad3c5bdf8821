/-
  LineBlames: the law's walk.
-/
import Derived.Test.YtppfpdhgckghdaaAlive
import Derived.Test.YtppfpdhgckghdaaCons
import Derived.Test.YtppfpdhgckghdaaBlR
set_option linter.unusedVariables false
set_option linter.unusedSimpArgs false
namespace Go.Proofs.Ytppfpdhgckghdaa
open Go.RowKit Go.Shelf

set_option maxRecDepth 100000 in
set_option maxHeartbeats 2000000 in
theorem lineBlames_any (N : Int) (A : Option Addr) (c : Nat) (bs : List Ln.Bd) (w : World) (hR : Rd w w.heap.size 4 A bs.length (bcells bs)) (hn : bs.length ≤ 9223372036854775807) (hlv : ∀ x ∈ bs, x.gone = false) :
    Calls Try.prog 4 #[.agg #[.int .i64 N, .slice A bs.length c]] w fun e w' => e = .returned (.bool true) ∧ Below w.heap.size w w' := by
  have s0 := Sy.new (w := w) N c hR
  rcases hf : Ln.fewF N bs.length 14 40 with _ | _
  · have HF := Lib.hid hf
    clear hf
    go_enter Try.func4, Try.ntmps4
    go_wp2_with fail
    refine (some_law N A bs.length c hn _).mono ?_
    rw [HF.out]
    rintro e w1 ⟨rfl, hb1⟩
    have s1 := s0.step hb1
    go_wp2_with fail
    refine (alive_any _).mono ?_
    rintro e w2 ⟨rfl, hb2⟩
    have s2 := s1.step hb2
    go_wp2_with fail
    go_ret
    exact ⟨rfl, s2.bl⟩
  · have hlen := Ln.fewF_len hf (by omega)
    have hLv : Ln.Lv bs := ⟨by omega, hlv⟩
    have hbl := fun w h => blame_any N A c bs w h hLv
    have hbr := fun w h => rblame_any N A c bs w h hLv hlen
    have hq := Ln.rbK_len bs N.toNat bs.length
    rw [Ln.rblF_eq hlv] at hbr
    have hql : (Ln.blF N bs).1.length ≤ 1000000 := by
      rw [← Ln.rblF_eq hlv, Ln.rblF]
      split
      · split
        · simp
        · dsimp only; omega
      · simp
    obtain ⟨q, hqq⟩ : ∃ q, Ln.blF N bs = q := ⟨_, rfl⟩
    rw [hqq] at hbl hbr hql
    obtain ⟨ql, qe⟩ := q
    dsimp only at hbl hbr hql
    have HBL := Lib.hid hbl
    have HBR := Lib.hid hbr
    have HF := Lib.hid hf
    clear hbl hbr hf hq hqq hLv hlv
    go_enter Try.func4, Try.ntmps4
    go_wp2_with fail
    refine (some_law N A bs.length c hn _).mono ?_
    rw [HF.out]
    rintro e w1 ⟨rfl, hb1⟩
    have s1 := s0.step hb1
    obtain ⟨c0, c1, cl⟩ := s1.cells
    go_wp2_with fail
    refine (HBL.out _ s1.rd).mono ?_
    rintro e w2 ⟨A1, c1', rfl, hr1, hb2⟩
    have s2 := s1.step hb2
    clear c0 c1 cl
    obtain ⟨c0, c1, cl⟩ := s2.cells
    go_wp2_with fail
    refine (HBR.out _ s2.rd).mono ?_
    rintro e w3 ⟨v', rfl, ⟨A2, c2', rfl, _, _, hr2, _⟩, hb3⟩
    have s3 := s2.step hb3
    have hr1' := (hr1.below hb3 (Nat.le_refl _)).more hb3.size
    clear c0 c1 cl hr1
    go_wp2_with fail
    refine (alive_any _).mono ?_
    rintro e w4 ⟨rfl, hb4⟩
    have s4 := s3.step hb4
    have hr14 := (hr1'.below hb4 (Nat.le_refl _)).more hb4.size
    have hr24 := (hr2.below hb4 (Nat.le_refl _)).more hb4.size
    clear hr1' hr2
    have hsm := sameInts_any A1 c1' ql A2 c2' ql w4 hr14 hr24 hql hql
    rw [show sameI ql ql = true from by unfold sameI; simp] at hsm
    have HSM := Lib.hid hsm
    clear hsm hr14 hr24
    go_wp2_with fail
    refine HSM.out.mono ?_
    rintro e w5 ⟨rfl, hb5⟩
    have s5 := s4.step hb5
    go_wp2_with fail
    go_ret
    exact ⟨rfl, s5.bl⟩

end Go.Proofs.Ytppfpdhgckghdaa
