/-
  Path.
-/
import Derived.Test.YteiaofgkmgllcaaFirst
import Derived.Test.YteiaofgkmgllcaaSome
import Derived.Test.YteiaofgkmgllcaaSpan
set_option linter.unusedVariables false
set_option linter.unusedSimpArgs false
namespace Go.Proofs.Yteiaofgkmgllcaa
open Go.RowKit Go.Shelf

section
variable (N : Int) (A : Option Addr) (c : Nat) (bs : List Ln.Bd) (a b : Int) (w : World)

set_option maxRecDepth 100000 in
set_option maxHeartbeats 1000000 in
theorem path_any (hR : Rd w w.heap.size 4 A bs.length (bcells bs)) (hc : Ln.Lv bs) :
    Calls Try.prog 28 #[.agg #[.int .i64 N, .slice A bs.length c], .int .i64 a, .int .i64 b] w fun e w' => ∃ A' c', e = .returned (.tuple #[.slice A' (Ln.paF N bs a b).1.length c', .int .i64 (Ln.paF N bs a b).2]) ∧
      Rd w' w'.heap.size 1 A' (Ln.paF N bs a b).1.length (nlist (Ln.paF N bs a b).1) ∧ Below w.heap.size w w' := by
  have hB0 : Below w.heap.size w ((w.alloc (.cells #[.int .i64 N, .slice A bs.length c] 24)).alloc (.cells #[.int .i64 a, .int .i64 b] 3)) := ((Below.refl _ _).alloc (Nat.le_refl _) _).alloc (by simp) _
  have hR1 := (hR.below hB0 (Nat.le_refl _)).more hB0.size
  have hP1 := two_rd w (.cells #[.int .i64 N, .slice A bs.length c] 24) a b
  have kS := (Bk.new w 24 #[.int .i64 N, .slice A bs.length c]).alloc (.cells #[.int .i64 a, .int .i64 b] 3)
  obtain ⟨r, hr⟩ : ∃ r, Ln.paF N bs a b = r := ⟨_, rfl⟩
  rw [hr]
  by_cases hs : Ln.soundF N bs [a, b] = 0
  · rw [Ln.paF, if_pos hs] at hr
    have hcp := (soundF_zero hs).1
    obtain ⟨hok, hN⟩ := Ln.ok_of_check (Ln.cpF_zero hcp)
    have pa := Ln.pts_of hcp (p := a) (by simp)
    have pb := Ln.pts_of hcp (p := b) (by simp)
    obtain ⟨a', rfl⟩ : ∃ a' : Nat, a = a' := ⟨a.toNat, by omega⟩
    obtain ⟨b', rfl⟩ : ∃ b' : Nat, b = b' := ⟨b.toNat, by omega⟩
    obtain ⟨M, rfl⟩ : ∃ M : Nat, N = M := ⟨N.toNat, by omega⟩
    rw [Int.toNat_natCast] at hok
    have htop := hok.top
    have hix := fun w => run_index_av (Ln.distF_small hok a').1 (b := b') (by omega) w
    have hsm := (Ln.distF_small hok a').2.at_ (k := b') (by have := (Ln.distF_small hok a').1; omega)
    have hdf : Ln.dF M bs a' b' = Ln.gt (Ln.distF bs M a') b' := by rw [Ln.dF]; simp
    rw [hdf, Int.toNat_natCast, Int.toNat_natCast, Int.toNat_natCast] at hr
    have HS := Lib.hid hs
    clear hs hcp hdf hN
    obtain ⟨D, hD⟩ : ∃ D, Ln.distF bs M a' = D := ⟨_, rfl⟩
    rw [hD] at hix hsm hr
    obtain ⟨y, hy⟩ : ∃ y, Ln.gt D b' = y := ⟨_, rfl⟩
    simp only [hy] at hix hsm hr
    have HD := Lib.hid hD
    have HSM := Lib.hid hsm
    have HR := Lib.hid hr
    clear hy hD hsm hr
    rcases hyn : (y == 9223372036854775807) with _ | _
    · have hyne : y ≠ Ln.NONE := by simpa [Ln.NONE] using hyn
      have hsm := HSM.out.resolve_left hyne
      have hy1 := hsm.1
      have hy2 := hsm.2
      have HY := Lib.hid hyne
      clear hyne hsm
      go_enter Try.func28, Try.ntmps28
      go_wp2_with (first
        | (go_at_call 44; refine (sound_fine M A c bs (some ⟨w.heap.size + 1, 0, none⟩) 2 [(a' : Int), (b' : Int)] _ hR1 hc hP1 (by simp) HS.out).mono ?_; rintro e w1 ⟨nb, fr, rfl, hNt, hb1⟩; have hNt := (Int.toNat_natCast M) ▸ hNt)
        | (go_at_call 50; refine (distances_any hok _ nb A c fr a' (by omega) _ hNt (Nat.le_refl _)).mono ?_; rw [HD.out]; rintro e w2 ⟨rfl, hb2⟩; have hNt2 := hNt.below hb2 (Nat.le_refl _); have k2 := (kS.below hb1 (by simp; omega)).below hb2 (kS.below hb1 (by simp; omega)).lt; have c0 := k2.cell 0)
        | (go_at_call 57; refine (firstPath_any hok _ nb A c fr a' b' y M _ (by omega) (by omega) (by omega) (by omega) htop hNt2 hb2.size).mono ?_; rintro e w3 ⟨A', c', rfl, hrd, hb3, _⟩))
      go_ret2
      have hr := HR.out
      rw [if_neg HY.out] at hr
      subst hr
      exact ⟨A', c', rfl, hrd, ((hB0.trans (hb1.mono hB0.size)).trans (hb2.mono (Nat.le_trans hB0.size hb1.size))).trans (hb3.mono (Nat.le_trans (Nat.le_trans hB0.size hb1.size) hb2.size))⟩
    · have hyne : y = Ln.NONE := by simpa [Ln.NONE] using hyn
      have HY := Lib.hid hyne
      clear hyne
      go_enter Try.func28, Try.ntmps28
      go_wp2_with (first
        | (go_at_call 44; refine (sound_fine M A c bs (some ⟨w.heap.size + 1, 0, none⟩) 2 [(a' : Int), (b' : Int)] _ hR1 hc hP1 (by simp) HS.out).mono ?_; rintro e w1 ⟨nb, fr, rfl, hNt, hb1⟩; have hNt := (Int.toNat_natCast M) ▸ hNt)
        | (go_at_call 50; refine (distances_any hok _ nb A c fr a' (by omega) _ hNt (Nat.le_refl _)).mono ?_; rw [HD.out]; rintro e w2 ⟨rfl, hb2⟩))
      go_ret2
      have hr := HR.out
      rw [if_pos HY.out] at hr
      subst hr
      exact ⟨none, 0, rfl, Rd.nil _ _ _ _, (hB0.trans (hb1.mono hB0.size)).trans (hb2.mono (Nat.le_trans hB0.size hb1.size))⟩
  · rw [Ln.paF, if_neg hs] at hr
    have hne : (Ln.soundF N bs [a, b] != 0) = true := by simp [hs]
    have HR := Lib.hid hr
    have HS := Lib.hid hs
    clear hr hs
    go_enter Try.func28, Try.ntmps28
    go_wp2_with (go_at_call 44; refine (sound_err N A c bs (some ⟨w.heap.size + 1, 0, none⟩) 2 [a, b] _ hR1 hc hP1 (by simp) HS.out).mono ?_; rintro e w1 ⟨rfl, hb1⟩)
    go_ret2
    have hr := HR.out
    subst hr
    exact ⟨none, 0, rfl, Rd.nil _ _ _ _, hB0.trans (hb1.mono hB0.size)⟩
end

end Go.Proofs.Yteiaofgkmgllcaa
