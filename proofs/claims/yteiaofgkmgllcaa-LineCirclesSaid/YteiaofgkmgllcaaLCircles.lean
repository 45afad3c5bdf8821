/-
  LineCircles: the law's walk.
-/
import Derived.Test.YteiaofgkmgllcaaAlive
import Derived.Test.YteiaofgkmgllcaaCons
import Derived.Test.YteiaofgkmgllcaaCirc
import Derived.Test.YteiaofgkmgllcaaChk
import Derived.Test.YteiaofgkmgllcaaCirQ
import Derived.Test.YteiaofgkmgllcaaCirR
set_option linter.unusedVariables false
set_option linter.unusedSimpArgs false
namespace Go.Proofs.Yteiaofgkmgllcaa
open Go.RowKit Go.Shelf

namespace Ln
theorem ciF_len {N : Int} {bs : List Bd} : (ciF N bs).1.length ≤ 1000000 := by
  unfold ciF
  split
  · split
    · simp
    · rename_i h _
      have ht := (ok_of_check h).1.top
      have h2 := (circK_top (bs := bs) (N := N.toNat) N.toNat).2.1
      show (circK bs N.toNat N.toNat).1.length ≤ 1000000
      omega
  · simp
end Ln

set_option maxRecDepth 100000 in
set_option maxHeartbeats 4000000 in
theorem lineCircles_any (N : Int) (A : Option Addr) (c : Nat) (bs : List Ln.Bd) (A2 : Option Addr) (c2 : Nat) (l : List Int) (w : World) (hR : Rd w w.heap.size 4 A bs.length (bcells bs)) (hn : bs.length ≤ 9223372036854775807) (hlv : ∀ x ∈ bs, x.gone = false)
    (hL : Rd w w.heap.size 1 A2 l.length (ints l)) :
    Calls Try.prog 3 #[.agg #[.int .i64 N, .slice A bs.length c], .slice A2 l.length c2] w fun e w' => e = .returned (.bool true) ∧ Below w.heap.size w w' := by
  have s0 := Sy.new (w := w) N c hR
  rcases hf : Ln.fewF N bs.length 8 14 with _ | _
  · have HF := Lib.hid hf
    clear hf
    go_enter Try.func3, Try.ntmps3
    go_wp2_with fail
    refine (few_law N A bs.length c hn _).mono ?_
    rw [HF.out]
    rintro e w1 ⟨rfl, hb1⟩
    have s1 := s0.step hb1
    go_wp2_with fail
    refine (alive_any _).mono ?_
    rintro e w2 ⟨rfl, hb2⟩
    have s2 := s1.step hb2
    go_wp2_with fail
    go_ret
    exact ⟨rfl, s2.bl⟩
  · have hlen := Ln.fewF_len hf (by omega)
    have hLv : Ln.Lv bs := ⟨by omega, hlv⟩
    have h14 : Ln.check N bs = 0 → N ≤ 14 := fun h => by have := (Ln.fewF_ok hf h).1; omega
    have HF := Lib.hid hf
    clear hf
    rcases Nat.lt_or_ge 20 l.length with hl | hl
    · have e1 : (20 : Int) < (l.length : Int) := by omega
      clear hlv hLv h14 hlen
      go_enter Try.func3, Try.ntmps3
      go_wp2_with fail
      refine (few_law N A bs.length c hn _).mono ?_
      rw [HF.out]
      rintro e w1 ⟨rfl, hb1⟩
      have s1 := s0.step hb1
      go_wp2_with fail
      refine (alive_any _).mono ?_
      rintro e w2 ⟨rfl, hb2⟩
      have s2 := s1.step hb2
      go_wp2_with fail
      go_ret
      exact ⟨rfl, s2.bl⟩
    · have e1 : (l.length : Int) ≤ 20 := by omega
      have hco := fun w h => cons_any N A c bs w h hLv
      have hcr := fun w h => rConsistent_any N A c bs w h hLv
      have hci := fun w h => circle_any N A c bs w h hLv
      have hcs := fun w h => rcircle_any N A c bs w h hLv h14
      have hcc := fun w h h2 => checkCircle_any N A c bs A2 c2 l w h hLv h2 (by omega)
      have hcq := fun w h h2 => rcheckCircle_any N A c bs A2 c2 l w h hLv h2 (by omega)
      have hql := Ln.ciF_len (N := N) (bs := bs)
      obtain ⟨⟨o1, o2⟩, ho⟩ : ∃ q, Ln.coF N bs = q := ⟨_, rfl⟩
      obtain ⟨⟨q1, q2, q3⟩, hq⟩ : ∃ q, Ln.ciF N bs = q := ⟨_, rfl⟩
      obtain ⟨⟨r1, r2⟩, hr⟩ : ∃ q, Ln.ccF N bs l = q := ⟨_, rfl⟩
      simp only [ho] at hco hcr
      simp only [hq] at hci hcs hql
      simp only [hr] at hcc hcq
      have HCO := Lib.hid hco
      have HCR := Lib.hid hcr
      have HCI := Lib.hid hci
      have HCS := Lib.hid hcs
      have HCC := Lib.hid hcc
      have HCQ := Lib.hid hcq
      clear hco hcr hci hcs hcc hcq ho hq hr hlv hLv h14 hlen
      go_enter Try.func3, Try.ntmps3
      go_wp2_with fail
      refine (few_law N A bs.length c hn _).mono ?_
      rw [HF.out]
      rintro e w1 ⟨rfl, hb1⟩
      have s1 := s0.step hb1
      obtain ⟨c0, c1, cl⟩ := s1.cells
      go_wp2_with fail
      refine (HCO.out _ s1.rd).mono ?_
      rintro e w2 ⟨rfl, hb2⟩
      have s2 := s1.step hb2
      clear c0 c1 cl
      obtain ⟨c0, c1, cl⟩ := s2.cells
      go_wp2_with fail
      refine (HCR.out _ s2.rd).mono ?_
      rintro e w3 ⟨rfl, hb3⟩
      have s3 := s2.step hb3
      clear c0 c1 cl
      obtain ⟨c0, c1, cl⟩ := s3.cells
      go_wp2_with fail
      refine (HCI.out _ s3.rd).mono ?_
      rintro e w4 ⟨A3, c3, rfl, hr3, hb4⟩
      have s4 := s3.step hb4
      clear c0 c1 cl
      obtain ⟨c0, c1, cl⟩ := s4.cells
      go_wp2_with fail
      refine (HCS.out _ s4.rd).mono ?_
      rintro e w5 ⟨A4, c4, rfl, hr4, hb5⟩
      have s5 := s4.step hb5
      have hr35 := (hr3.below hb5 (Nat.le_refl _)).more hb5.size
      have hL5 := (hL.below s5.bl (Nat.le_refl _)).more s5.bl.size
      clear c0 c1 cl hr3
      obtain ⟨c0, c1, cl⟩ := s5.cells
      go_wp2_with fail
      refine (HCC.out _ s5.rd hL5).mono ?_
      rintro e w6 ⟨rfl, hb6⟩
      have s6 := s5.step hb6
      have hr36 := (hr35.below hb6 (Nat.le_refl _)).more hb6.size
      have hr46 := (hr4.below hb6 (Nat.le_refl _)).more hb6.size
      have hL6 := (hL.below s6.bl (Nat.le_refl _)).more s6.bl.size
      clear c0 c1 cl hr35 hr4 hL5
      obtain ⟨c0, c1, cl⟩ := s6.cells
      go_wp2_with fail
      refine (HCQ.out _ s6.rd hL6).mono ?_
      rintro e w7 ⟨rfl, hb7⟩
      have s7 := s6.step hb7
      have hr37 := (hr36.below hb7 (Nat.le_refl _)).more hb7.size
      have hr47 := (hr46.below hb7 (Nat.le_refl _)).more hb7.size
      clear c0 c1 cl hr36 hr46 hL6
      go_wp2_with fail
      refine (alive_any _).mono ?_
      rintro e w8 ⟨rfl, hb8⟩
      have s8 := s7.step hb8
      have hr38 := (hr37.below hb8 (Nat.le_refl _)).more hb8.size
      have hr48 := (hr47.below hb8 (Nat.le_refl _)).more hb8.size
      clear hr37 hr47
      have hz : (Ln.zl q1).length = q1.length := by simp [Ln.zl]
      have hsm := sameInts_any A3 c3 (Ln.zl q1) A4 c4 (Ln.zl q1) w8 (by rw [hz, ← nlist_ints]; exact hr38) (by rw [hz, ← nlist_ints]; exact hr48) (by omega) (by omega)
      rw [show sameI (Ln.zl q1) (Ln.zl q1) = true from by unfold sameI; simp, hz] at hsm
      have HSM := Lib.hid hsm
      clear hsm hr38 hr48 hz
      have b1 : (o1 == o1) = true := by simp
      have b2 : (o2 == o2) = true := by simp
      have b3 : (q2 == q2) = true := by simp
      have b4 : (q3 == q3) = true := by simp
      have b5 : (r1 == r1) = true := by simp
      have b6 : (r2 == r2) = true := by simp
      go_wp2_with fail
      refine HSM.out.mono ?_
      rintro e w9 ⟨rfl, hb9⟩
      have s9 := s8.step hb9
      go_wp2_with fail
      go_ret
      exact ⟨rfl, s9.bl⟩

end Go.Proofs.Yteiaofgkmgllcaa
