/-
  LineLattice: what stands while the law runs; systems and lists that are too long.
-/
import Derived.Test.YtdndhfggdjphjaaAlive
import Derived.Test.YtdndhfggdjphjaaCons
import Derived.Test.YtdndhfggdjphjaaLeaP
import Derived.Test.YtdndhfggdjphjaaKeptL
import Derived.BigRegion
import Derived.BigQuiet
import Derived.Deep.QuietTactic
set_option linter.unusedVariables false
set_option linter.unusedSimpArgs false
namespace Go.Proofs.Ytdndhfggdjphjaa
open Go.RowKit Go.Shelf

/-- make of a list of numbers. -/
theorem run_make_ints (n : Nat) (hn : n ≤ 1000000) (w : World) : (Instr.makeSlice 34 (.int .i64 (n : Int)) (.int .i64 (n : Int))).run Try.prog w = .ok (.slice (some ⟨w.heap.size, 0, none⟩) n n) (w.alloc (.cells (av (Ln.zerosN n)) 3)) := by
  obtain ⟨i0, hi0, hz0, hz1, hz2⟩ := info_parts info3
  have hb' : (i0.bytes : Int) * (n : Int) ≤ 281474976710656 := by rw [hz2]; omega
  have hr := run_make (P := Try.prog) w 34 3 i0 _ Try.underlying34 hi0 hz0 .i64 .i64 n n (by omega) (Int.le_refl _) hb' (by omega)
  simp only [Int.toNat_natCast, hz1, Nat.mul_one] at hr
  rw [show madeCells (Value.int .i64 0).cells n = av (Ln.zerosN n) from made_ints n] at hr
  exact hr

theorem mk_next (f : Nat → Int) {n k : Nat} (hk : k < n) : ((List.range k).map f ++ Ln.zerosN (n - k)).set k (f k) = (List.range (k + 1)).map f ++ Ln.zerosN (n - (k + 1)) := by
  rw [List.range_succ, List.map_append, show n - k = (n - (k + 1)) + 1 from by omega, Ln.zerosN, List.replicate_succ, List.set_append_right _ _ (by simp), List.length_map, List.length_range, Nat.sub_self, List.set_cons_zero, List.append_assoc]
  rfl
/-- What stands while the law runs. -/
structure LatP (w W : World) (sb B : Nat) (N : Int) (A : Option Addr) (c : Nat) (bs : List Ln.Bd) (Ay : Option Addr) (y : List Int) (Az : Option Addr) (z : List Int) (A1 : Option Addr) (l1 : List Int) (A2 : Option Addr) (l2 : List Int) : Prop where
  le : w.heap.size ≤ B
  lt : sb < B
  sz : B ≤ W.heap.size
  bk : Bk W sb 24 #[.int .i64 N, .slice A bs.length c]
  rd : Rd W B 4 A bs.length (bcells bs)
  ry : Rd W B 1 Ay y.length (ints y)
  rz : Rd W B 1 Az z.length (ints z)
  r1 : Rd W B 1 A1 l1.length (ints l1)
  r2 : Rd W B 1 A2 l2.length (ints l2)
  bl : Below w.heap.size w W
section
variable {w W W' : World} {sb B : Nat} {N : Int} {A : Option Addr} {c : Nat} {bs : List Ln.Bd} {Ay : Option Addr} {y : List Int} {Az : Option Addr} {z : List Int} {A1 : Option Addr} {l1 : List Int} {A2 : Option Addr} {l2 : List Int}
theorem LatP.keep (h : LatP w W sb B N A c bs Ay y Az z A1 l1 A2 l2) (hb : Below B W W') : LatP w W' sb B N A c bs Ay y Az z A1 l1 A2 l2 :=
  ⟨h.le, h.lt, Nat.le_trans h.sz hb.size, h.bk.below hb h.lt, h.rd.below hb (Nat.le_refl _), h.ry.below hb (Nat.le_refl _), h.rz.below hb (Nat.le_refl _), h.r1.below hb (Nat.le_refl _), h.r2.below hb (Nat.le_refl _), h.bl.trans (hb.mono h.le)⟩
theorem LatP.step (h : LatP w W sb B N A c bs Ay y Az z A1 l1 A2 l2) (hb : Below W.heap.size W W') : LatP w W' sb B N A c bs Ay y Az z A1 l1 A2 l2 := h.keep (hb.mono h.sz)
theorem LatP.up (h : LatP w W sb B N A c bs Ay y Az z A1 l1 A2 l2) : LatP w W sb W.heap.size N A c bs Ay y Az z A1 l1 A2 l2 :=
  ⟨Nat.le_trans h.le h.sz, Nat.lt_of_lt_of_le h.lt h.sz, Nat.le_refl _, h.bk, h.rd.more h.sz, h.ry.more h.sz, h.rz.more h.sz, h.r1.more h.sz, h.r2.more h.sz, h.bl⟩
end

section
variable (N : Int) (A : Option Addr) (c : Nat) (bs : List Ln.Bd) (Ay : Option Addr) (cy : Nat) (y : List Int) (Az : Option Addr) (cz : Nat) (z : List Int) (w : World)
  (hR : Rd w w.heap.size 4 A bs.length (bcells bs)) (hn : bs.length ≤ 9223372036854775807)

set_option maxRecDepth 100000 in
set_option maxHeartbeats 2000000 in
include hR hn in
theorem lattice_early (hf : Ln.fewF N bs.length 14 40 = false ∨ 20 < y.length ∨ 20 < z.length) : Calls Try.prog 8 #[.agg #[.int .i64 N, .slice A bs.length c], .slice Ay y.length cy, .slice Az z.length cz] w fun e w' => e = .returned (.bool true) ∧ Below w.heap.size w w' := by
  have s0 := Sy.new (w := w) N c hR
  rcases h : Ln.fewF N bs.length 14 40 with _ | _
  · have HF := Lib.hid h
    clear hf h
    go_enter Try.func8, Try.ntmps8
    go_wp2_with fail
    refine (some_law N A bs.length c hn _).mono ?_
    rw [HF.out]
    rintro e w1 ⟨rfl, hb1⟩
    have s1 := s0.step hb1
    go_wp2_with fail
    refine (alive_any _).mono ?_
    rintro e wz ⟨rfl, hbz⟩
    have sz := s1.step hbz
    go_wp2_with fail
    go_ret
    exact ⟨rfl, sz.bl⟩
  · have HF := Lib.hid h
    have hf2 : 20 < y.length ∨ 20 < z.length := hf.resolve_left (by rw [h]; simp)
    clear hf h
    by_cases hy : 20 < y.length
    · have e1 : (20 : Int) < (y.length : Int) := by omega
      clear hf2
      go_enter Try.func8, Try.ntmps8
      go_wp2_with fail
      refine (some_law N A bs.length c hn _).mono ?_
      rw [HF.out]
      rintro e w1 ⟨rfl, hb1⟩
      have s1 := s0.step hb1
      go_wp2_with fail
      refine (alive_any _).mono ?_
      rintro e wz ⟨rfl, hbz⟩
      have sz := s1.step hbz
      go_wp2_with fail
      go_ret
      exact ⟨rfl, sz.bl⟩
    · have hz : 20 < z.length := hf2.resolve_left hy
      have e1 : ¬ (20 : Int) < (y.length : Int) := by omega
      have e2 : (20 : Int) < (z.length : Int) := by omega
      clear hf2
      go_enter Try.func8, Try.ntmps8
      go_wp2_with fail
      refine (some_law N A bs.length c hn _).mono ?_
      rw [HF.out]
      rintro e w1 ⟨rfl, hb1⟩
      have s1 := s0.step hb1
      go_wp2_with fail
      refine (alive_any _).mono ?_
      rintro e wz ⟨rfl, hbz⟩
      have sz := s1.step hbz
      go_wp2_with fail
      go_ret
      exact ⟨rfl, sz.bl⟩

def KpC (N : Int) (bs : List Ln.Bd) (y : List Int) (i : Int) (r : Bool) (e0 : Int) : Prop := ∀ A c A2 c2 w, Rd w w.heap.size 4 A bs.length (bcells bs) → Rd w w.heap.size 1 A2 y.length (ints y) →
  Calls Try.prog 25 #[.agg #[.int .i64 N, .slice A bs.length c], .slice A2 y.length c2] w fun e w' => e = .returned (.tuple #[.int .i64 i, .bool r, .int .i64 e0]) ∧ Below w.heap.size w w'
def LsC (N : Int) (bs : List Ln.Bd) (l : List Int) (e0 : Int) : Prop := ∀ A c w, Rd w w.heap.size 4 A bs.length (bcells bs) →
  Calls Try.prog 31 #[.agg #[.int .i64 N, .slice A bs.length c]] w fun e w' => ∃ V, e = .returned (.tuple #[V, .int .i64 e0]) ∧ w'.ownsRow w.heap.size 3 1 V l.length (ints l) ∧ Below w.heap.size w w'
def GsC (N : Int) (bs : List Ln.Bd) (l : List Int) (e0 : Int) : Prop := ∀ A c w, Rd w w.heap.size 4 A bs.length (bcells bs) →
  Calls Try.prog 32 #[.agg #[.int .i64 N, .slice A bs.length c]] w fun e w' => ∃ V, e = .returned (.tuple #[V, .int .i64 e0]) ∧ w'.ownsRow w.heap.size 3 1 V l.length (ints l) ∧ Below w.heap.size w w'
end

end Go.Proofs.Ytdndhfggdjphjaa
