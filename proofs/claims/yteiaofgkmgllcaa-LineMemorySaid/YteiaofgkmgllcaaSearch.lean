/-
  search.
-/
import Derived.Test.YteiaofgkmgllcaaWalk
import Derived.Laws.EntriesVeiled
set_option linter.unusedVariables false
set_option linter.unusedSimpArgs false
namespace Go.Proofs.Yteiaofgkmgllcaa
open Go.RowKit Go.Shelf

set_option maxRecDepth 100000 in
set_option maxHeartbeats 2000000 in
theorem search_any {N : Nat} {bs : List Ln.Bd} (hok : Ln.Ok N bs) (B nb : Nat) (A : Option Addr) (c : Nat) (fr : List Value) (R : Nat → List Int) (hR : ∀ k, (R k).length = 128 ∧ Ln.Sm (1000000 * k) (R k)) (gr nR cR : Nat) (hnR : nR + 1 ≤ 130)
    (p : Nat) (most : Int) (w : World) (hp : p < N) (h1 : -10000000000000000 ≤ most) (h2 : most ≤ 10000000000000000) (hN : IsNet w B nb N bs A c fr) (hBw : B ≤ w.heap.size) (hg : gr < w.heap.size)
    (hrows : ∀ k j, k < nR + 1 → j < 128 → w.cell? ⟨gr, k * 128 + j, none⟩ = some (.int .i64 (Ln.gt (R k) j))) :
    Calls Try.prog 83 #[.pointer (some ⟨nb, 0, none⟩), .slice (some ⟨gr, 0, none⟩) (nR + 1) cR, .int .i64 p, .int .i64 most] w fun e w' =>
      ∃ A' c', e = .returned (.slice A' (Ln.wkF bs R nR p most).length c') ∧ Rd w' w'.heap.size 1 A' (Ln.wkF bs R nR p most).length (nlist (Ln.wkF bs R nR p most)) ∧ Below w.heap.size w w' ∧ (A' = none ↔ Ln.wkF bs R nR p most = []) := by
  have hnB := hN.lt
  obtain ⟨m, hm⟩ : ∃ m, nR + 1 = m := ⟨_, rfl⟩
  have hmm : (m : Int) - 1 = nR := by omega
  rw [hm]
  obtain ⟨F, hF⟩ : ∃ F : Value, .func (.func 92) #[] #[.pointer (some ⟨w.heap.size, 0, none⟩), .pointer (some ⟨w.heap.size + 1, 0, none⟩), .pointer (some ⟨w.heap.size + 1 + 1, 0, none⟩), .pointer (some ⟨w.heap.size + 1 + 1 + 1, 0, none⟩)] = F := ⟨_, rfl⟩
  have kW := Bk.new (((w.alloc (.cells #[.pointer (some ⟨nb, 0, none⟩)] 64)).alloc (.cells #[.slice (some ⟨gr, 0, none⟩) m cR] 78)).alloc (.cells #[.slice none 0 0] 25)) 134 #[F]
  have kP := (Bk.new ((w.alloc (.cells #[.pointer (some ⟨nb, 0, none⟩)] 64)).alloc (.cells #[.slice (some ⟨gr, 0, none⟩) m cR] 78)) 25 #[.slice none 0 0]).alloc (.cells #[F] 134)
  have kR := ((Bk.new (w.alloc (.cells #[.pointer (some ⟨nb, 0, none⟩)] 64)) 78 #[.slice (some ⟨gr, 0, none⟩) m cR]).alloc (.cells #[.slice none 0 0] 25)).alloc (.cells #[F] 134)
  have kN := (((Bk.new w 64 #[.pointer (some ⟨nb, 0, none⟩)]).alloc (.cells #[.slice (some ⟨gr, 0, none⟩) m cR] 78)).alloc (.cells #[.slice none 0 0] 25)).alloc (.cells #[F] 134)
  have hB0 : Below w.heap.size w ((((w.alloc (.cells #[.pointer (some ⟨nb, 0, none⟩)] 64)).alloc (.cells #[.slice (some ⟨gr, 0, none⟩) m cR] 78)).alloc (.cells #[.slice none 0 0] 25)).alloc (.cells #[F] 134)) := ((((Below.refl _ _).alloc (Nat.le_refl _) _).alloc (by simp) _).alloc (by simp <;> omega) _).alloc (by simp <;> omega) _
  simp only [World.size_alloc] at kW kP kR
  have hsz : ((((w.alloc (.cells #[.pointer (some ⟨nb, 0, none⟩)] 64)).alloc (.cells #[.slice (some ⟨gr, 0, none⟩) m cR] 78)).alloc (.cells #[.slice none 0 0] 25)).alloc (.cells #[F] 134)).heap.size = w.heap.size + 4 := by simp
  subst hF
  have hWk : Wk ((((w.alloc (.cells #[.pointer (some ⟨nb, 0, none⟩)] 64)).alloc (.cells #[.slice (some ⟨gr, 0, none⟩) m cR] 78)).alloc (.cells #[.slice none 0 0] 25)).alloc (.cells #[.func (.func 92) #[] #[.pointer (some ⟨w.heap.size, 0, none⟩), .pointer (some ⟨w.heap.size + 1, 0, none⟩), .pointer (some ⟨w.heap.size + 1 + 1, 0, none⟩), .pointer (some ⟨w.heap.size + 1 + 1 + 1, 0, none⟩)]] 134)) (w.heap.size + 4) B nb N bs A c fr R gr m cR w.heap.size (w.heap.size + 1) (w.heap.size + 1 + 1) (w.heap.size + 1 + 1 + 1) :=
    ⟨hN.below hB0 hBw, kN, kR, fun k j hk hj => (hB0.cell (p := ⟨gr, k * 128 + j, none⟩) hg).trans (hrows k j (by omega) hj), kW, by omega, ⟨by omega, by omega, by omega, by omega, by omega⟩, ⟨by omega, by omega, by omega, by omega, by omega⟩, by rw [hsz]; exact Nat.le_refl _⟩
  have hcall := walk_any hok (w.heap.size + 4) B nb A c fr R hR gr m cR w.heap.size (w.heap.size + 1) (w.heap.size + 1 + 1) (w.heap.size + 1 + 1 + 1) (by omega) nR p most [] (.slice none 0 0) _ (by omega) hp (by omega) (by omega) (by simp; omega) hWk kP ⟨rfl, .inl ⟨rfl, rfl⟩⟩
  have HC := Lib.hid hcall
  have HB := Lib.hid hB0
  clear hcall hWk hB0 hsz kW kP kR kN hR hrows
  go_enter Try.func83, Try.ntmps83
  go_wp2_with (go_at_call 92; refine HC.out.mono ?_; rintro e w1 ⟨O, rfl, hP1, hO1, hk1, hsm⟩; have c1 := hP1.cell 0; have hpl := hP1.lt; simp only [List.getElem?_toArray, List.getElem?_cons_zero] at c1)
  rw [List.nil_append] at hO1
  obtain ⟨A', c', hOe, hrd, _⟩ := ownB_rd hO1 (by simp [nlist])
  subst hOe
  go_ret
  refine ⟨A', c', rfl, hrd, HB.out.trans (hk1.below (by simp; omega) (fun j hj e => ?_)), ?_⟩
  rotate_left
  · rcases hsm with ⟨h, h0⟩ | ⟨h0, a, n, c2, h⟩
    · rw [show A' = none from by injection h]
      exact ⟨fun _ => h0, fun _ => rfl⟩
    · rw [show A' = some a from by injection h]
      exact ⟨fun e => (by cases e), fun e => absurd e h0⟩
  rcases e with e | e
  · omega
  · cases e

end Go.Proofs.Yteiaofgkmgllcaa
