/-
  Distance, Between, Range.
-/
import Derived.Test.YtppfpdhgckghdaaSound
set_option linter.unusedVariables false
set_option linter.unusedSimpArgs false
namespace Go.Proofs.Ytppfpdhgckghdaa
open Go.RowKit

theorem run_index_av {d : List Int} (hd : d.length = 128) {b : Nat} (hb : b < 128) (w : World) : (Instr.index 87 (.agg (av d)) (.int .i64 (b : Int))).run Try.prog w = .ok (.int .i64 (Ln.gt d b)) w := by
  have h1 : Try.prog.underlying 87 = some (.array 128 3) := by kernel_rfl
  have hp : Try.prog.plainKey 3 = true := by kernel_rfl
  have hx : (av d)[b]? = some (.int .i64 (Ln.gt d b)) := av_at (by omega)
  have hs : ∀ w, (sizeOf 3).run Try.prog w = .ok 1 w := fun w => by kernel_rfl
  have hb' : (0 : Int) ≤ (b : Int) ∧ (b : Int) < ((128 : Nat) : Int) := by omega
  simp only [Instr.index, asIntOf, Sem.run_bind, Sem.run_pure, Result.andThen_ok, run_underlying h1]
  rw [if_pos hb']
  simp only [Sem.run_bind, hs, Result.andThen_ok]
  rw [show (b : Int).toNat * 1 = b from by omega]
  exact run_part_plain _ hp hx

theorem two_rd (w : World) (o : Obj) (a b : Int) : Rd ((w.alloc o).alloc (.cells #[.int .i64 a, .int .i64 b] 3)) ((w.alloc o).alloc (.cells #[.int .i64 a, .int .i64 b] 3)).heap.size 1 (some ⟨w.heap.size + 1, 0, none⟩) [a, b].length (ints [a, b]) := by
  refine ⟨rfl, fun _ => ⟨_, _, rfl, by simp, fun j hj => ?_⟩⟩
  have k1 := Bk.new (w.alloc o) 3 #[.int .i64 a, .int .i64 b]
  rw [World.size_alloc] at k1
  rw [Nat.zero_add, k1.cell j]
  simp [ints]

section
variable (N : Int) (A : Option Addr) (c : Nat) (bs : List Ln.Bd) (a b : Int) (w : World) 

set_option maxRecDepth 100000 in
set_option maxHeartbeats 1000000 in
theorem distance_bad (hR : Rd w w.heap.size 4 A bs.length (bcells bs)) (hc : Ln.Lv bs) (hs : Ln.soundF N bs [a, b] ≠ 0) :
    Calls Try.prog 23 #[.agg #[.int .i64 N, .slice A bs.length c], .int .i64 a, .int .i64 b] w fun e w' => e = .returned (.tuple #[.int .i64 0, .bool false, .int .i64 (Ln.soundF N bs [a, b])]) ∧ Below w.heap.size w w' := by
  have hB0 : Below w.heap.size w ((w.alloc (.cells #[.int .i64 N, .slice A bs.length c] 24)).alloc (.cells #[.int .i64 a, .int .i64 b] 3)) := ((Below.refl _ _).alloc (Nat.le_refl _) _).alloc (by simp) _
  have hR1 := (hR.below hB0 (Nat.le_refl _)).more hB0.size
  have hP1 := two_rd w (.cells #[.int .i64 N, .slice A bs.length c] 24) a b
  have hne : (Ln.soundF N bs [a, b] != 0) = true := by simp [hs]
  by_cases hcp : Ln.cpF N bs [a, b] = 0
  · have hco : Ln.consF bs N.toNat = false := by
      rcases h : Ln.consF bs N.toNat with _ | _
      · rfl
      · exact absurd (by rw [Ln.soundF, if_pos hcp, if_pos h]) hs
    have hs2 : Ln.soundF N bs [a, b] = 10 := by rw [Ln.soundF, if_pos hcp, if_neg (by rw [hco]; simp)]
    rw [hs2]
    have HCP := Lib.hid hcp
    have HCO := Lib.hid hco
    clear hs hs2 hne hcp hco
    go_enter Try.func23, Try.ntmps23
    go_wp2_with (go_at_call 69; refine (sound_circle N A c bs (some ⟨w.heap.size + 1, 0, none⟩) 2 [a, b] _ hR1 hc hP1 (by simp) HCP.out HCO.out).mono ?_; rintro e w1 ⟨rfl, hb1⟩)
    go_ret3
    exact ⟨rfl, hB0.trans (hb1.mono hB0.size)⟩
  · have hs2 : Ln.soundF N bs [a, b] = Ln.cpF N bs [a, b] := by rw [Ln.soundF, if_neg hcp]
    rw [hs2] at hne ⊢
    have HCP := Lib.hid hcp
    clear hs hs2 hcp
    go_enter Try.func23, Try.ntmps23
    go_wp2_with (go_at_call 69; refine (sound_bad N A c bs (some ⟨w.heap.size + 1, 0, none⟩) 2 [a, b] _ hR1 hc hP1 (by simp) HCP.out).mono ?_; rintro e w1 ⟨rfl, hb1⟩)
    go_ret3
    exact ⟨rfl, hB0.trans (hb1.mono hB0.size)⟩

set_option maxRecDepth 100000 in
set_option maxHeartbeats 1000000 in
theorem distance_ok (hR : Rd w w.heap.size 4 A bs.length (bcells bs)) (hc : Ln.Lv bs) (hs : Ln.soundF N bs [a, b] = 0) :
    Calls Try.prog 23 #[.agg #[.int .i64 N, .slice A bs.length c], .int .i64 a, .int .i64 b] w fun e w' =>
      e = .returned (.tuple (if Ln.dF N bs a b = Ln.NONE then #[.int .i64 0, .bool false, .int .i64 0] else #[.int .i64 (Ln.dF N bs a b), .bool true, .int .i64 0])) ∧ Below w.heap.size w w' := by
  have hB0 : Below w.heap.size w ((w.alloc (.cells #[.int .i64 N, .slice A bs.length c] 24)).alloc (.cells #[.int .i64 a, .int .i64 b] 3)) := ((Below.refl _ _).alloc (Nat.le_refl _) _).alloc (by simp) _
  have hR1 := (hR.below hB0 (Nat.le_refl _)).more hB0.size
  have hP1 := two_rd w (.cells #[.int .i64 N, .slice A bs.length c] 24) a b
  have hcp : Ln.cpF N bs [a, b] = 0 := by
    unfold Ln.soundF at hs
    split at hs
    · assumption
    · exact hs
  have hco : Ln.consF bs N.toNat = true := by
    rcases h : Ln.consF bs N.toNat with _ | _
    · rw [Ln.soundF, if_pos hcp, if_neg (by rw [h]; simp)] at hs
      cases hs
    · rfl
  obtain ⟨hok, hN⟩ := Ln.ok_of_check (Ln.cpF_zero hcp)
  have pa := Ln.pts_of hcp (p := a) (by simp)
  have pb := Ln.pts_of hcp (p := b) (by simp)
  obtain ⟨a', rfl⟩ : ∃ a' : Nat, a = a' := ⟨a.toNat, by omega⟩
  obtain ⟨b', rfl⟩ : ∃ b' : Nat, b = b' := ⟨b.toNat, by omega⟩
  have hix := fun w => run_index_av (Ln.distF_small hok a').1 (b := b') (by have := hok.top; omega) w
  have hdf : Ln.dF N bs a' b' = Ln.gt (Ln.distF bs N.toNat a') b' := by rw [Ln.dF]; simp
  rw [hdf]
  have HCP := Lib.hid hcp
  have HCO := Lib.hid hco
  clear hs hcp hco hdf
  obtain ⟨D, hD⟩ : ∃ D, Ln.distF bs N.toNat a' = D := ⟨_, rfl⟩
  rw [hD] at hix ⊢
  obtain ⟨y, hy⟩ : ∃ y, Ln.gt D b' = y := ⟨_, rfl⟩
  simp only [hy] at hix ⊢
  have HD := Lib.hid hD
  clear hy hD
  rcases hyn : (y == 9223372036854775807) with _ | _
  · have hyne : y ≠ Ln.NONE := by simpa [Ln.NONE] using hyn
    rw [if_neg hyne]
    clear hyne
    go_enter Try.func23, Try.ntmps23
    go_wp2_with (first
      | (go_at_call 69; refine (sound_ok N A c bs (some ⟨w.heap.size + 1, 0, none⟩) 2 [(a' : Int), (b' : Int)] _ hR1 hc hP1 (by simp) HCP.out HCO.out).mono ?_; rintro e w1 ⟨nb, fr, rfl, hNt, hb1⟩)
      | (go_at_call 70; refine (distances_any hok _ nb A c fr a' (by omega) _ hNt (Nat.le_refl _)).mono ?_; rw [HD.out]; rintro e w2 ⟨rfl, hb2⟩))
    go_ret3
    exact ⟨rfl, (hB0.trans (hb1.mono hB0.size)).trans (hb2.mono (Nat.le_trans hB0.size hb1.size))⟩
  · have hyne : y = Ln.NONE := by simpa [Ln.NONE] using hyn
    rw [if_pos hyne]
    clear hyne
    go_enter Try.func23, Try.ntmps23
    go_wp2_with (first
      | (go_at_call 69; refine (sound_ok N A c bs (some ⟨w.heap.size + 1, 0, none⟩) 2 [(a' : Int), (b' : Int)] _ hR1 hc hP1 (by simp) HCP.out HCO.out).mono ?_; rintro e w1 ⟨nb, fr, rfl, hNt, hb1⟩)
      | (go_at_call 70; refine (distances_any hok _ nb A c fr a' (by omega) _ hNt (Nat.le_refl _)).mono ?_; rw [HD.out]; rintro e w2 ⟨rfl, hb2⟩))
    go_ret3
    exact ⟨rfl, (hB0.trans (hb1.mono hB0.size)).trans (hb2.mono (Nat.le_trans hB0.size hb1.size))⟩
end

end Go.Proofs.Ytppfpdhgckghdaa
