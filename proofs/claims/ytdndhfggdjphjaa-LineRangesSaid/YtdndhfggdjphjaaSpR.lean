/-
  The reference's span; Matrix of a sound system.
-/
import Derived.Test.YtdndhfggdjphjaaMatx
import Derived.Test.YtdndhfggdjphjaaPntR
import Derived.Test.YtdndhfggdjphjaaBetw
set_option linter.unusedVariables false
set_option linter.unusedSimpArgs false
namespace Go.Proofs.Ytdndhfggdjphjaa
open Go.RowKit

def lowR (x : Int × Bool) : Int × Bool := if x.2 then (-x.1, true) else (0, false)
def highR (x : Int × Bool) : Int × Bool := if x.2 then (x.1, true) else (0, false)
theorem lowR_far (d : Int) : lowR (Ln.ffar d) = Ln.lowF 0 d := by
  unfold lowR Ln.ffar Ln.lowF
  by_cases h : d = Ln.NONE
  · simp [h]
  · simp [h]
theorem highR_far (d : Int) : highR (Ln.ffar d) = Ln.highF 0 d := by
  unfold highR Ln.ffar Ln.highF
  by_cases h : d = Ln.NONE
  · simp [h]
  · simp [h]

set_option maxRecDepth 100000 in
set_option maxHeartbeats 1000000 in
theorem rspan_any {G N : Nat} {blk : Nat → Nat} {D : Nat → Nat → Int × Bool} (w : World) (hM : MM w G N blk D) {a b : Nat} (ha : a < N) (hb : b < N) (hN : N ≤ 128) (hs : -100000000000 ≤ (D b a).1 ∧ (D b a).1 ≤ 100000000000) :
    Calls Try.prog 52 #[.slice (some ⟨G, 0, none⟩) N N, .int .i64 a, .int .i64 b] w fun e w' => e = .returned (spanV (lowR (D b a)) (highR (D a b))) ∧ Below w.heap.size w w' := by
  have o1 := hM.cellO ha
  have o2 := hM.cellO hb
  obtain ⟨v1, v2⟩ := hM.cells ha hb
  obtain ⟨v3, v4⟩ := hM.cells hb ha
  have lG := hM.out.lt
  have la := (hM.row a ha).lt
  have lb := (hM.row b hb).lt
  obtain ⟨⟨x, p⟩, hx⟩ : ∃ z, D a b = z := ⟨_, rfl⟩
  obtain ⟨⟨y, q⟩, hy⟩ : ∃ z, D b a = z := ⟨_, rfl⟩
  rw [hx] at v1 v2
  rw [hy] at v3 v4 hs
  rw [hx, hy]
  dsimp only at v1 v2 v3 v4 hs
  obtain ⟨hs1, hs2⟩ := hs
  have ha0 : (0 : Int) ≤ (a : Int) := Int.natCast_nonneg _
  have hb0 : (0 : Int) ≤ (b : Int) := Int.natCast_nonneg _
  have ha1 : (a : Int) < (N : Int) := by omega
  have hb1 : (b : Int) < (N : Int) := by omega
  clear hM hx hy
  have hB : ∀ o1 o2 : Obj, Below w.heap.size w ((w.alloc o1).alloc o2) := fun o1 o2 => ((Below.refl _ _).alloc (Nat.le_refl _) _).alloc (by simp) _
  rcases p with _ | _ <;> rcases q with _ | _
  · go_enter Try.func52, Try.ntmps52
    go_wp2_with fail
    exact bodyPost_ret (v := .agg #[.int .i64 0, .int .i64 0, .bool false, .bool false]) (by simp [results, Try.results52, go_sem]) rfl ⟨rfl, hB _ _⟩
  · go_enter Try.func52, Try.ntmps52
    go_wp2_with fail
    exact bodyPost_ret (v := .agg #[.int .i64 (-y), .int .i64 0, .bool true, .bool false]) (by simp [results, Try.results52, go_sem]) rfl ⟨rfl, hB _ _⟩
  · go_enter Try.func52, Try.ntmps52
    go_wp2_with fail
    exact bodyPost_ret (v := .agg #[.int .i64 0, .int .i64 x, .bool false, .bool true]) (by simp [results, Try.results52, go_sem]) rfl ⟨rfl, hB _ _⟩
  · go_enter Try.func52, Try.ntmps52
    go_wp2_with fail
    exact bodyPost_ret (v := .agg #[.int .i64 (-y), .int .i64 x, .bool true, .bool true]) (by simp [results, Try.results52, go_sem]) rfl ⟨rfl, hB _ _⟩

/-- The matrix of a sound system. -/
theorem matrix_sound {N : Int} {bs : List Ln.Bd} {ps : List Int} (hs : Ln.soundF N bs ps = 0) (hc : Ln.Lv bs) (h14 : N ≤ 14) (A : Option Addr) (c : Nat) (w : World) (hR : Rd w w.heap.size 4 A bs.length (bcells bs)) :
    Calls Try.prog 53 #[.agg #[.int .i64 N, .slice A bs.length c]] w fun e w' => ∃ G blk D, e = .returned (.slice (some ⟨G, 0, none⟩) N.toNat N.toNat) ∧ MM w' G N.toNat blk D ∧ Ap G N.toNat blk ∧ w.heap.size ≤ G ∧ Below w.heap.size w w' ∧
      (∀ a b, a < N.toNat → b < N.toNat → D a b = Ln.ffar (Ln.dF N bs a b)) ∧ ∀ a b, a < N.toNat → b < N.toNat → -100000000000 ≤ (D a b).1 ∧ (D a b).1 ≤ 100000000000 := by
  obtain ⟨h1, h2, h3⟩ := Ln.sound_zero hs
  obtain ⟨hok, hN⟩ := Ln.ok_of_check h3
  have hNN := (Ln.cons_iff hok).1 h2
  have h := matrix_any hok hc.live hNN (by omega) A c w hR
  rw [hN] at h
  refine h.mono ?_
  rintro e w' ⟨G, blk, rfl, hM, hA, hG, hb⟩
  refine ⟨G, blk, _, rfl, hM, hA, hG, hb, fun a b ha hb => ?_, fun a b ha hb => ?_⟩
  · rw [Ln.mtx_at hok hc.live hNN ha hb, Ln.dF]
    simp
  · have h1 := (Ln.fwC_ok hok hc.live hNN N.toNat (Nat.le_refl _)).1.small hok hNN (Ln.mtop_pos _) ha hb
    have hm : Ln.mtop N.toNat ≤ Ln.mtop 14 := Ln.mtop_mono (by omega)
    rw [Ln.mtop_14] at hm
    have : (N.toNat : Int) ≤ 14 := by omega
    show -100000000000 ≤ (Ln.fwC N.toNat (Ln.edK bs bs.length) N.toNat a b).1 ∧ (Ln.fwC N.toNat (Ln.edK bs bs.length) N.toNat a b).1 ≤ 100000000000
    omega

end Go.Proofs.Ytdndhfggdjphjaa
