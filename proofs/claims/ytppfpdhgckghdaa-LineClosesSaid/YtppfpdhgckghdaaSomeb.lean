/-
  sound in two theorems; Some.
-/
import Derived.Test.YtppfpdhgckghdaaSome
set_option linter.unusedVariables false
set_option linter.unusedSimpArgs false
namespace Go.Proofs.Ytppfpdhgckghdaa
open Go.RowKit

section
variable (N : Int) (A : Option Addr) (c : Nat) (bs : List Ln.Bd) (A2 : Option Addr) (c2 : Nat) (ps : List Int) (w : World)

theorem sound_err (hR : Rd w w.heap.size 4 A bs.length (bcells bs)) (hc : Ln.Lv bs)
    (hP : Rd w w.heap.size 1 A2 ps.length (ints ps)) (hps : ps.length ≤ 1000000) (hs : Ln.soundF N bs ps ≠ 0) :
    Calls Try.prog 69 #[.agg #[.int .i64 N, .slice A bs.length c], .slice A2 ps.length c2] w fun e w' => e = .returned (.tuple #[.pointer none, .int .i64 (Ln.soundF N bs ps)]) ∧ Below w.heap.size w w' := by
  by_cases hcp : Ln.cpF N bs ps = 0
  · have hco : Ln.consF bs N.toNat = false := by
      rcases h : Ln.consF bs N.toNat with _ | _
      · rfl
      · exact absurd (by rw [Ln.soundF, if_pos hcp, if_pos h]) hs
    rw [show Ln.soundF N bs ps = 10 from by rw [Ln.soundF, if_pos hcp, if_neg (by rw [hco]; simp)]]
    exact sound_circle N A c bs A2 c2 ps w hR hc hP hps hcp hco
  · rw [show Ln.soundF N bs ps = Ln.cpF N bs ps from by rw [Ln.soundF, if_neg hcp]]
    exact sound_bad N A c bs A2 c2 ps w hR hc hP hps hcp

theorem soundF_zero {N : Int} {bs : List Ln.Bd} {ps : List Int} (hs : Ln.soundF N bs ps = 0) : Ln.cpF N bs ps = 0 ∧ Ln.consF bs N.toNat = true := by
  have hcp : Ln.cpF N bs ps = 0 := by
    unfold Ln.soundF at hs
    split at hs
    · assumption
    · exact hs
  refine ⟨hcp, ?_⟩
  rcases h : Ln.consF bs N.toNat with _ | _
  · rw [Ln.soundF, if_pos hcp, if_neg (by rw [h]; simp)] at hs
    cases hs
  · rfl

theorem sound_fine (hR : Rd w w.heap.size 4 A bs.length (bcells bs)) (hc : Ln.Lv bs)
    (hP : Rd w w.heap.size 1 A2 ps.length (ints ps)) (hps : ps.length ≤ 1000000) (hs : Ln.soundF N bs ps = 0) :
    Calls Try.prog 69 #[.agg #[.int .i64 N, .slice A bs.length c], .slice A2 ps.length c2] w fun e w' => ∃ nb fr, e = .returned (.tuple #[.pointer (some ⟨nb, 0, none⟩), .int .i64 0]) ∧ IsNet w' w'.heap.size nb N.toNat bs A c fr ∧ Below w.heap.size w w' :=
  sound_ok N A c bs A2 c2 ps w hR hc hP hps (soundF_zero hs).1 (soundF_zero hs).2
end

section
variable (N : Int) (A : Option Addr) (c : Nat) (bs : List Ln.Bd) (w : World)

set_option maxRecDepth 100000 in
set_option maxHeartbeats 1000000 in
theorem some_any (hR : Rd w w.heap.size 4 A bs.length (bcells bs)) (hc : Ln.Lv bs) :
    Calls Try.prog 36 #[.agg #[.int .i64 N, .slice A bs.length c]] w fun e w' => ∃ A' c', e = .returned (.tuple #[.slice A' (Ln.someF N bs).1.length c', .int .i64 (Ln.someF N bs).2]) ∧ Rd w' w'.heap.size 1 A' (Ln.someF N bs).1.length (ints (Ln.someF N bs).1) ∧ Below w.heap.size w w' := by
  have hB0 : Below w.heap.size w (w.alloc (.cells #[.int .i64 N, .slice A bs.length c] 24)) := (Below.refl _ _).alloc (Nat.le_refl _) _
  have hR1 := (hR.below hB0 (Nat.le_refl _)).more hB0.size
  have hP1 := Rd.nil (w.alloc (.cells #[.int .i64 N, .slice A bs.length c] 24)) (w.alloc (.cells #[.int .i64 N, .slice A bs.length c] 24)).heap.size 1 none
  by_cases hs : Ln.soundF N bs [] = 0
  · obtain ⟨hok, hN⟩ := Ln.ok_of_check (Ln.cpF_zero (soundF_zero hs).1)
    rw [show Ln.someF N bs = (Ln.valF bs N.toNat, 0) from by rw [Ln.someF, if_pos hs]]
    have hvl := Ln.valF_length bs N.toNat
    have HS := Lib.hid hs
    have HVL := Lib.hid hvl
    clear hs hvl
    go_enter Try.func36, Try.ntmps36
    go_wp2_with (first
      | (go_at_call 69; refine (sound_fine N A c bs none 0 [] _ hR1 hc hP1 (by simp) HS.out).mono ?_; rintro e w1 ⟨nb, fr, rfl, hNt, hb1⟩)
      | (go_at_call 78; refine (values_any hok _ nb A c fr _ hNt (Nat.le_refl _)).mono ?_; rintro e w2 ⟨g, rfl, hg, kV, hb2⟩))
    go_ret2
    have hvl := HVL.out
    refine ⟨some ⟨g, 0, none⟩, N.toNat, ?_, ?_, (hB0.trans (hb1.mono hB0.size)).trans (hb2.mono (Nat.le_trans hB0.size hb1.size))⟩
    · rw [hvl]
      rfl
    · exact bk_rd kV (by omega)
  · rw [show Ln.someF N bs = ([], Ln.soundF N bs []) from by rw [Ln.someF, if_neg hs]]
    have hne : (Ln.soundF N bs [] != 0) = true := by simp [hs]
    have HS := Lib.hid hs
    clear hs
    go_enter Try.func36, Try.ntmps36
    go_wp2_with (go_at_call 69; refine (sound_err N A c bs none 0 [] _ hR1 hc hP1 (by simp) HS.out).mono ?_; rintro e w1 ⟨rfl, hb1⟩)
    go_ret2
    exact ⟨none, 0, rfl, Rd.nil _ _ _ _, hB0.trans (hb1.mono hB0.size)⟩
end

end Go.Proofs.Ytppfpdhgckghdaa
