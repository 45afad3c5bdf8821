/-
  The law's alike, at two systems with the same distances.
-/
import Derived.Test.YtdndhfggdjphjaaDsP
import Derived.Test.YtdndhfggdjphjaaCons
import Derived.Test.YtdndhfggdjphjaaRefA
set_option linter.unusedVariables false
set_option linter.unusedSimpArgs false
namespace Go.Proofs.Ytdndhfggdjphjaa
open Go.RowKit Go.Shelf

namespace Ln
/-- Two systems with the same distances. -/
structure Alike (N : Int) (bs : List Bd) (M : Int) (cs : List Bd) : Prop where
  fine : ∀ k : Nat, k < N.toNat → (dsF N bs k).2.2 = 0
  same : ∀ k : Nat, k < N.toNat → dsF M cs k = dsF N bs k
end Ln

theorem two_sys2 (N : Int) (A : Option Addr) (c : Nat) (bs : List Ln.Bd) (M : Int) (A2 : Option Addr) (c2 : Nat) (cs : List Ln.Bd) (w : World) (hR : Rd w w.heap.size 4 A bs.length (bcells bs)) (hR2 : Rd w w.heap.size 4 A2 cs.length (bcells cs)) :
    Sy w ((w.alloc (.cells #[.int .i64 N, .slice A bs.length c] 24)).alloc (.cells #[.int .i64 M, .slice A2 cs.length c2] 24)) w.heap.size N A c bs ∧
    Sy w ((w.alloc (.cells #[.int .i64 N, .slice A bs.length c] 24)).alloc (.cells #[.int .i64 M, .slice A2 cs.length c2] 24)) (w.heap.size + 1) M A2 c2 cs := by
  have h1 := (Sy.new (w := w) N c hR).alloc (.cells #[.int .i64 M, .slice A2 cs.length c2] 24)
  have hB : Below w.heap.size w (w.alloc (.cells #[.int .i64 N, .slice A bs.length c] 24)) := (Below.refl _ _).alloc (Nat.le_refl _) _
  have h2 := Sy.new (w := w.alloc (.cells #[.int .i64 N, .slice A bs.length c] 24)) M c2 ((hR2.below hB (Nat.le_refl _)).more hB.size)
  rw [World.size_alloc] at h2
  exact ⟨h1, h2.bk, h2.rd, hB.trans (h2.bl.mono hB.size)⟩

set_option maxRecDepth 100000 in
set_option maxHeartbeats 2000000 in
theorem alike_any (N : Int) (A : Option Addr) (c : Nat) (bs : List Ln.Bd) (M : Int) (A2 : Option Addr) (c2 : Nat) (cs : List Ln.Bd) (w : World) (hR : Rd w w.heap.size 4 A bs.length (bcells bs)) (hR2 : Rd w w.heap.size 4 A2 cs.length (bcells cs))
    (hc : Ln.Lv bs) (hc2 : Ln.Lv cs) (h0 : 0 ≤ N) (h1 : N ≤ 128) (hal : Ln.Alike N bs M cs) :
    Calls Try.prog 37 #[.agg #[.int .i64 N, .slice A bs.length c], .agg #[.int .i64 M, .slice A2 cs.length c2]] w fun e w' => e = .returned (.bool true) ∧ Below w.heap.size w w' := by
  obtain ⟨s0, t0⟩ := two_sys2 N A c bs M A2 c2 cs w hR hR2
  obtain ⟨n, rfl⟩ : ∃ n : Nat, N = n := ⟨N.toNat, by omega⟩
  have HAL := Lib.hid hal
  clear hal
  have hdl := fun k : Nat => Ln.dsF_len (N := (n : Int)) (bs := bs) (a := k) h1
  have HDL := Lib.hid hdl
  clear hdl
  obtain ⟨c0, c1, cl⟩ := s0.cells
  go_enter Try.func37, Try.ntmps37
  go_wp2_with fail
  go_loopw [14] (fun i wr => ∃ k : Nat, k ≤ n ∧ i = .int .i64 k ∧ Sy w wr w.heap.size n A c bs ∧ Sy w wr (w.heap.size + 1) M A2 c2 cs)
    (fun i _ => n - (intOf i).toNat)
  case atStart => exact ⟨0, Nat.zero_le _, rfl, s0, t0⟩
  case round =>
    clear s0 t0 c0 c1 cl
    obtain ⟨k, hk, rfl, s1, t1⟩ := hrel
    by_cases hkl : k < n
    · have hk0 : (0 : Int) ≤ (k : Int) := Int.natCast_nonneg _
      have hk1 : (k : Int) < n := by omega
      have hfine := HAL.out.fine k (by omega)
      have hsame := HAL.out.same k (by omega)
      obtain ⟨hl1, hl2⟩ := HDL.out k
      have hd1 := fun w h => ldistances_any (n : Int) A c bs k w h hc
      have hd2 := fun w h => ldistances_any M A2 c2 cs k w h hc2
      rw [hsame] at hd2
      obtain ⟨r, hr⟩ : ∃ r, Ln.dsF (n : Int) bs k = r := ⟨_, rfl⟩
      rw [hr] at hfine hd1 hd2 hl1 hl2
      obtain ⟨dl, df, de⟩ := r
      dsimp only at hfine hd1 hd2 hl1 hl2
      subst hfine
      have HD1 := Lib.hid hd1
      have HD2 := Lib.hid hd2
      clear hd1 hd2 hsame hr
      obtain ⟨c0, c1, cl⟩ := s1.cells
      go_wp2_with fail
      refine (HD1.out _ s1.rd).mono ?_
      rintro e w2 ⟨A3, c3, A4, c4, rfl, r3, r4, hb2⟩
      have s2 := s1.step hb2
      have t2 := t1.step hb2
      clear c0 c1 cl
      obtain ⟨c0, c1, cl⟩ := t2.cells
      go_wp2_with fail
      refine (HD2.out _ t2.rd).mono ?_
      rintro e w3 ⟨A5, c5, A6, c6, rfl, r5, r6, hb3⟩
      have s3 := s2.step hb3
      have t3 := t2.step hb3
      have r3' := (r3.below hb3 (Nat.le_refl _)).more hb3.size
      have r4' := (r4.below hb3 (Nat.le_refl _)).more hb3.size
      clear c0 c1 cl r3 r4
      have hsm := sameInts_any A3 c3 dl A5 c5 dl w3 r3' r5 (by omega) (by omega)
      rw [show sameI dl dl = true from by unfold sameI; simp] at hsm
      have HSM := Lib.hid hsm
      clear hsm r3' r5
      go_wp2_with fail
      refine HSM.out.mono ?_
      rintro e w4 ⟨rfl, hb4⟩
      have s4 := s3.step hb4
      have t4 := t3.step hb4
      have hsf := sameFlags_any A4 c4 A6 c6 df w4 ((r4'.below hb4 (Nat.le_refl _)).more hb4.size) ((r6.below hb4 (Nat.le_refl _)).more hb4.size) (by omega)
      have HSF := Lib.hid hsf
      clear hsf r4' r6
      go_wp2_with fail
      refine HSF.out.mono ?_
      rintro e w5 ⟨rfl, hb5⟩
      have s5 := s4.step hb5
      have t5 := t4.step hb5
      go_wp2_with fail
      go_roundw
      case rel => exact ⟨k + 1, by omega, by go_num, s5, t5⟩
      case measure => simp [intOf]; omega
    · go_wp2_with fail
      go_ret
      exact ⟨rfl, s1.bl⟩

end Go.Proofs.Ytdndhfggdjphjaa
