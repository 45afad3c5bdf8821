/-
  What the claims of layer deed need of the texts Base, Math, Num, Last, Fit, Exm, DCal, DLst.
-/
import Derived.Below
import Derived.Laws.OwnMore
import Derived.WalkKit
import Derived.WalkSpells
import Derived.WalkLawsBesides
import Derived.Deep.QuietTactic
import Derived.BigQuiet
import Derived.Deep.LoopGhost
import Derived.Deep.DeepFit
import Derived.Deep.DeepMust
import Derived.Deep.RegionHeld3
import Derived.Deep.DeepCutAuto
import Derived.Laws.Rows
import Derived.Deep.AppendLies
import Derived.Sort.QuietIn
import Derived.Sort.LoopGhostIn
import Derived.Stop.RegionWithIn
import Derived.BigRegionIn
import Derived.Laws.Tables
import Derived.Deep.RegionLaw
import Derived.Deep.RegionWith
import Derived.StillTailTactics
import Derived.Lib.Hide
import Derived.RangeFuncNested
import Derived.RangeFuncBound
import Derived.RangeFuncCalls
import Derived.RangeFuncLeaves
import Derived.RangeFuncBox
import Derived.Shelf.Abstract
import Derived.Shelf.RegionOpen
import Derived.OwnWalkIn
import Derived.TacticsInMore
import Derived.LoopNIn
import Derived.LoopIn
import Derived.Maps.AppendAt
import Derived.Maps.OwnIn
import Derived.StillTail
import Derived.Test.YtcbeefbefapicaaGreatDoorProg
import Derived.Test.YtcbeefbefapicaaGreatDoorBn00
set_option linter.unusedVariables false
set_option linter.unusedSimpArgs false
namespace Go.Proofs.YtcbeefbefapicaaGreatDoor
open Go.RowKit
def Rd (w : World) (B size : Nat) (A : Option Addr) (n : Nat) (xs : List Value) : Prop :=
 xs.length = n * size ∧ (0 < n → ∃ b off, A = some ⟨b, off, none⟩ ∧ b < B ∧ ∀ j, j < n * size → w.cell? ⟨b, off + j, none⟩ = xs[j]?)
section
variable {w w' : World} {B B' size n : Nat} {A : Option Addr} {xs : List Value}
theorem Rd.keep (h : Rd w B size A n xs) (hk : ∀ b off, b < B → w'.cell? ⟨b, off, none⟩ = w.cell? ⟨b, off, none⟩) : Rd w' B size A n xs := by
 refine ⟨h.1, fun hn => ?_⟩
 obtain ⟨b, off, e, hb, hc⟩ := h.2 hn
 exact ⟨b, off, e, hb, fun j hj => (hk _ _ hb).trans (hc j hj)⟩
theorem Rd.more (h : Rd w B size A n xs) (hB : B ≤ B') : Rd w B' size A n xs := by
 refine ⟨h.1, fun hn => ?_⟩
 obtain ⟨b, off, e, hb, hc⟩ := h.2 hn
 exact ⟨b, off, e, by omega, hc⟩
theorem Rd.below (h : Rd w B size A n xs) {C : Nat} (hb : Below C w w') (hC : B ≤ C) : Rd w' B size A n xs :=
 h.keep fun b off hlt => hb.cell (p := ⟨b, off, none⟩) (Nat.lt_of_lt_of_le hlt hC)
theorem Rd.nil (w : World) (B size : Nat) (A : Option Addr) : Rd w B size A 0 [] := ⟨by simp, fun h => absurd h (by omega)⟩
end
theorem ret_bool {a b : Bool} (h : a = b) : Ending.returned (.bool a) = .returned (.bool b) := by rw [h]
theorem ret_int {a b : Int} (h : a = b) : Ending.returned (.int .i64 a) = .returned (.int .i64 b) := by rw [h]
def vcell (v : Int × Int) : List Value := [.int .i64 v.1, .int .i64 v.2]
def vcells (vs : List (Int × Int)) : List Value := vs.flatMap vcell
theorem vcells_at (vs : List (Int × Int)) {k : Nat} (hk : k < vs.length) :
    (vcells vs)[k * 2]? = some (.int .i64 vs[k].1) ∧ (vcells vs)[k * 2 + 1]? = some (.int .i64 vs[k].2) := by
  induction vs generalizing k with
  | nil => simp at hk
  | cons v vs ih =>
    rw [show vcells (v :: vs) = vcell v ++ vcells vs from rfl]
    cases k with
    | zero => simp [vcell]
    | succ k =>
      have h2 : (vcell v).length = 2 := rfl
      have := ih (k := k) (by simpa using hk)
      simp only [List.getElem_cons_succ]
      rw [List.getElem?_append_right (by omega), List.getElem?_append_right (by omega), h2, show (k + 1) * 2 - 2 = k * 2 from by omega, show (k + 1) * 2 + 1 - 2 = k * 2 + 1 from by omega]
      exact this
theorem Rd.var {w : World} {B : Nat} {A : Option Addr} {vs : List (Int × Int)} (h : Rd w B 2 A vs.length (vcells vs)) {k : Nat} (hk : k < vs.length) :
  ∃ b off, A = some ⟨b, off, none⟩ ∧ b < B ∧ w.cell? ⟨b, off + k * 2, none⟩ = some (.int .i64 vs[k].1) ∧ w.cell? ⟨b, off + k * 2 + 1, none⟩ = some (.int .i64 vs[k].2) := by
 obtain ⟨b, off, e, hb, hc⟩ := h.2 (by omega)
 obtain ⟨h0, h1⟩ := vcells_at vs hk
 refine ⟨b, off, e, hb, ?_, ?_⟩
 ·rw [hc _ (by omega), h0]
 ·rw [show off + k * 2 + 1 = off + (k * 2 + 1) from by omega, hc _ (by omega), h1]
def cval (c : Cs.Co) : Value := .agg #[.int .i64 c.b, .int .i64 c.n, .int .i64 c.l, .int .i64 c.y, .int .i64 c.w, .int .i64 c.s]
def ccell (c : Cs.Co) : List Value := [.int .i64 c.b, .int .i64 c.n, .int .i64 c.l, .int .i64 c.y, .int .i64 c.w, .int .i64 c.s]
def ccells (cs : List Cs.Co) : List Value := cs.flatMap ccell
theorem ccells_at (cs : List Cs.Co) {k : Nat} (hk : k < cs.length) (j : Nat) (hj : j < 6) : (ccells cs)[k * 6 + j]? = (ccell cs[k])[j]? := by
  induction cs generalizing k with
  | nil => simp at hk
  | cons c cs ih =>
    rw [show ccells (c :: cs) = ccell c ++ ccells cs from rfl]
    have h6 : (ccell c).length = 6 := rfl
    cases k with
    | zero =>
      rw [List.getElem?_append_left (by omega)]
      simp
    | succ k =>
      have := ih (k := k) (by simpa using hk)
      rw [List.getElem?_append_right (by omega), h6, show (k + 1) * 6 + j - 6 = k * 6 + j from by omega]
      simpa using this
theorem Rd.course {w : World} {B : Nat} {A : Option Addr} {cs : List Cs.Co} (h : Rd w B 6 A cs.length (ccells cs)) {k : Nat} (hk : k < cs.length) :
  ∃ b off, A = some ⟨b, off, none⟩ ∧ b < B ∧ w.cell? ⟨b, off + k * 6, none⟩ = some (.int .i64 cs[k].b) ∧ w.cell? ⟨b, off + k * 6 + 1, none⟩ = some (.int .i64 cs[k].n) ∧
   w.cell? ⟨b, off + k * 6 + 2, none⟩ = some (.int .i64 cs[k].l) ∧ w.cell? ⟨b, off + k * 6 + 3, none⟩ = some (.int .i64 cs[k].y) ∧ w.cell? ⟨b, off + k * 6 + 4, none⟩ = some (.int .i64 cs[k].w) ∧
   w.cell? ⟨b, off + k * 6 + 5, none⟩ = some (.int .i64 cs[k].s) := by
 obtain ⟨b, off, e, hb, hc⟩ := h.2 (by omega)
 have hat := fun j hj => ccells_at cs hk j hj
 refine ⟨b, off, e, hb, ?_, ?_, ?_, ?_, ?_, ?_⟩
 ·rw [hc _ (by omega)]; exact hat 0 (by decide)
 ·rw [show off + k * 6 + 1 = off + (k * 6 + 1) from by omega, hc _ (by omega)]; exact hat 1 (by decide)
 ·rw [show off + k * 6 + 2 = off + (k * 6 + 2) from by omega, hc _ (by omega)]; exact hat 2 (by decide)
 ·rw [show off + k * 6 + 3 = off + (k * 6 + 3) from by omega, hc _ (by omega)]; exact hat 3 (by decide)
 ·rw [show off + k * 6 + 4 = off + (k * 6 + 4) from by omega, hc _ (by omega)]; exact hat 4 (by decide)
 ·rw [show off + k * 6 + 5 = off + (k * 6 + 5) from by omega, hc _ (by omega)]; exact hat 5 (by decide)
def Bk (w : World) (g : Nat) (t : TypeId) (cs : Array Value) : Prop := w.heap[g]? = some (.cells cs t (0, 0))
section
variable {w w' : World} {g : Nat} {t : TypeId} {cs : Array Value}
theorem Bk.lt (h : Bk w g t cs) : g < w.heap.size := (Array.getElem?_eq_some_iff.1 h).1
theorem Bk.cell (h : Bk w g t cs) (i : Nat) : w.cell? ⟨g, i, none⟩ = cs[i]? := by
 unfold Bk at h
 simp [World.cell?, h]
theorem Bk.frozen (h : Bk w g t cs) (i : Nat) : w.frozen? ⟨g, i, none⟩ = false := by
 unfold Bk at h
 simp [World.frozen?, h]
theorem Bk.new (w : World) (t : TypeId) (cs : Array Value) : Bk (w.alloc (.cells cs t)) w.heap.size t cs := World.alloc_heap_new w _
theorem Bk.alloc (h : Bk w g t cs) (o : Obj) : Bk (w.alloc o) g t cs := (Below.heap_alloc w o g h.lt).trans h
theorem Bk.below {C : Nat} (h : Bk w g t cs) (hb : Below C w w') (hg : g < C) : Bk w' g t cs := (hb.block g hg).trans h
theorem Bk.set (h : Bk w g t cs) (i : Nat) (u : Value) : Bk (w.setCell ⟨g, i, none⟩ u) g t (cs.setIfInBounds i u) := by
 unfold Bk at h ⊢
 simp [World.setCell, Array.getElem?_modify, h]
theorem Bk.far (h : Bk w g t cs) {p : Addr} (hp : g ≠ p.block) (u : Value) : Bk (w.setCell p u) g t cs := (Below.heap_setCell w p u g hp).trans h
end
theorem Bk.row {w : World} {g : Nat} {t : TypeId} {cs : Array Value} (h : Bk w g t cs) (cs' : Array Value) : Bk (w.setRow g cs') g t cs' := setRow_heap w g cs cs' t (0, 0) h
theorem Bk.row_far {w : World} {g k : Nat} {t : TypeId} {cs : Array Value} (h : Bk w g t cs) (hk : g ≠ k) (cs' : Array Value) : Bk (w.setRow k cs') g t cs := by
 unfold Bk at h ⊢
 simp only [World.setRow, Array.getElem?_modify]
 rw [if_neg (by omega)]
 exact h
theorem size_setRow (w : World) (g : Nat) (cs : Array Value) : (w.setRow g cs).heap.size = w.heap.size := by simp [World.setRow]
structure KeepX (M : Nat) (X : Nat → Prop) (w w' : World) : Prop where
 os : w'.os = w.os
 tape : w'.tape = w.tape
 output : w'.output = w.output
 size : w.heap.size ≤ w'.heap.size
 block : ∀ k, k < M → ¬ X k → w'.heap[k]? = w.heap[k]?
section
variable {M : Nat} {X : Nat → Prop} {a w w' : World}
theorem KeepX.refl (M : Nat) (X : Nat → Prop) (w : World) : KeepX M X w w := ⟨rfl, rfl, rfl, Nat.le_refl _, fun _ _ _ => rfl⟩
theorem KeepX.trans {c : World} (h : KeepX M X a w) (k : KeepX M X w c) : KeepX M X a c :=
 ⟨k.os.trans h.os, k.tape.trans h.tape, k.output.trans h.output, Nat.le_trans h.size k.size, fun i hi hx => (k.block i hi hx).trans (h.block i hi hx)⟩
theorem KeepX.mono {M' : Nat} {X' : Nat → Prop} (h : KeepX M X w w') (hM : M' ≤ M) (hX : ∀ k, k < M' → X k → X' k) : KeepX M' X' w w' :=
 ⟨h.os, h.tape, h.output, h.size, fun k hk hx => h.block k (Nat.lt_of_lt_of_le hk hM) (fun e => hx (hX k hk e))⟩
theorem KeepX.of_below (h : Below M w w') (X : Nat → Prop) : KeepX M X w w' := ⟨h.os, h.tape, h.output, h.size, fun k hk _ => h.block k hk⟩
theorem KeepX.below (h : KeepX M X w w') {B : Nat} (hB : B ≤ M) (hX : ∀ k, k < B → ¬ X k) : Below B w w' :=
 ⟨h.os, h.tape, h.output, h.size, fun k hk => h.block k (Nat.lt_of_lt_of_le hk hB) (hX k hk)⟩
theorem KeepX.of_grown {row : Option Nat} (h : w.grownBy w' row) (hM : M ≤ w.heap.size) (hr : ∀ k, row = some k → k < M → X k) : KeepX M X w w' :=
 ⟨h.os, h.tape, h.output, h.size, fun k hk hx => h.block k (by omega) (fun e => hx (hr k e.symm hk))⟩
theorem KeepX.alloc (h : KeepX M X a w) (hM : M ≤ w.heap.size) (o : Obj) : KeepX M X a (w.alloc o) :=
 h.trans (.of_grown (World.grownBy_alloc w o none) hM (fun k e => by cases e))
theorem KeepX.drew (h : KeepX M X a w) : KeepX M X a w.drew := ⟨h.os, h.tape, h.output, h.size, h.block⟩
theorem KeepX.drewN (h : KeepX M X a w) (n : Nat) : KeepX M X a (w.drewN n) := ⟨h.os, h.tape, h.output, h.size, h.block⟩
theorem KeepX.setCell (h : KeepX M X a w) {p : Addr} (hp : p.block < M → X p.block) (u : Value) : KeepX M X a (w.setCell p u) :=
 h.trans ⟨rfl, rfl, rfl, by simp [World.setCell], fun k hk hx => Below.heap_setCell _ _ _ _ (fun e => hx (by rw [e]; exact hp (by omega)))⟩
theorem KeepX.setRow (h : KeepX M X a w) {g : Nat} (hp : g < M → X g) (cs : Array Value) : KeepX M X a (w.setRow g cs) := by
 refine h.trans ⟨rfl, rfl, rfl, by simp [World.setRow], fun k hk hx => ?_⟩
 simp only [World.setRow, Array.getElem?_modify]
 rw [if_neg (fun e => hx (by rw [← e]; exact hp (by omega)))]
theorem KeepX.bk (h : KeepX M X w w') {g : Nat} {t : TypeId} {cs : Array Value} (hb : Bk w g t cs) (hg : g < M) (hx : ¬ X g) : Bk w' g t cs := (h.block g hg hx).trans hb
end
end Go.Proofs.YtcbeefbefapicaaGreatDoor

namespace Go.Proofs.YtcbeefbefapicaaGreatDoor
namespace Cs
theorem sinI_all : ∀ k ∈ List.range 360, (0 < k → k < 180 → 0 < sinI (k : Int)) ∧ (k ≤ 90 → 0 ≤ sinI ((k : Int) + 90)) ∧ (90 ≤ k → k < 180 → sinI (((k : Int) + 90) % 360) ≤ 0) := by decide +kernel
theorem sin_pos {d : Int} (h0 : 0 < d) (h1 : d < 180) : 0 < sin d := by
 have hn : norm d = d := by unfold norm; omega
 have := (sinI_all d.toNat (by simp; omega)).1 (by omega) (by omega)
 rw [show ((d.toNat : Nat) : Int) = d by omega] at this
 rw [sin, hn]
 exact this
theorem cos_nonneg {d : Int} (h0 : 0 ≤ d) (h1 : d ≤ 90) : 0 ≤ cos d := by
 have hn : norm d = d := by unfold norm; omega
 have := (sinI_all d.toNat (by simp; omega)).2.1 (by omega)
 rw [show ((d.toNat : Nat) : Int) = d by omega] at this
 rw [cos, hn, sin, show norm (d + 90) = d + 90 by unfold norm; omega]
 exact this
theorem cos_nonpos {d : Int} (h0 : 90 ≤ d) (h1 : d < 180) : cos d ≤ 0 := by
 have hn : norm d = d := by unfold norm; omega
 have := (sinI_all d.toNat (by simp; omega)).2.2 (by omega) (by omega)
 rw [show ((d.toNat : Nat) : Int) = d by omega] at this
 rw [cos, hn, sin, norm]
 exact this
theorem le_flo {a b x : Int} (hb : 0 < b) : x ≤ flo a b ↔ x * b ≤ a := by
 unfold flo
 exact Int.le_ediv_iff_mul_le hb
theorem cei_le {a b x : Int} (hb : 0 < b) : cei a b ≤ x ↔ a ≤ x * b := by
 unfold cei
 have := Int.le_ediv_iff_mul_le (a := -x) (b := -a) hb
 rw [Int.neg_mul] at this
 omega
theorem sq_abs {y r : Int} (hr : 0 ≤ r) : y * y ≤ r * r ↔ -r ≤ y ∧ y ≤ r := by
 constructor
 ·intro h
  constructor
  ·rcases Int.lt_or_le y (-r) with hh | hh
   ·have h1 : (r + 1) * (r + 1) ≤ (-y) * (-y) := Int.mul_le_mul (by omega) (by omega) (by omega) (by omega)
    rw [Int.neg_mul_neg] at h1
    have h2 : (r + 1) * (r + 1) = r * r + 2 * r + 1 := by
     rw [Int.add_mul, Int.mul_add]; omega
    omega
   ·exact hh
  ·rcases Int.lt_or_le r y with hh | hh
   ·have h1 : (r + 1) * (r + 1) ≤ y * y := Int.mul_le_mul (by omega) (by omega) (by omega) (by omega)
    have h2 : (r + 1) * (r + 1) = r * r + 2 * r + 1 := by
     rw [Int.add_mul, Int.mul_add]; omega
    omega
   ·exact hh
 ·rintro ⟨h1, h2⟩
  rcases Int.lt_or_le y 0 with hh | hh
  ·have : (-y) * (-y) ≤ r * r := Int.mul_le_mul (by omega) (by omega) (by omega) (by omega)
   rwa [Int.neg_mul_neg] at this
  ·exact Int.mul_le_mul (by omega) (by omega) (by omega) (by omega)
theorem le_root {n y : Int} (h0 : 0 ≤ n) (h1 : n ≤ 9223372036854775807) : y * y ≤ n ↔ -(root n) ≤ y ∧ y ≤ root n := by
 obtain ⟨a, b, c⟩ := root_spec h0 h1
 constructor
 ·intro h
  have : ¬ ((root n + 1) ≤ y ∨ y ≤ -(root n + 1)) := by
   rintro (hh | hh)
   ·have : (root n + 1) * (root n + 1) ≤ y * y := Int.mul_le_mul hh hh (by omega) (by omega)
    omega
   ·have : (root n + 1) * (root n + 1) ≤ (-y) * (-y) := Int.mul_le_mul (by omega) (by omega) (by omega) (by omega)
    rw [Int.neg_mul_neg] at this
    omega
  omega
 ·intro h
  have := (sq_abs (y := y) a).2 h
  omega
theorem rootUp_le {n y : Int} (h1 : n ≤ 9223372036854775807) (hy : 0 ≤ y) : rootUp n ≤ y ↔ n ≤ y * y := by
 rcases Int.lt_or_le n 0 with hn | h0
 ·have e : rootUp n = 0 := by
   rw [rootUp, root_neg hn, if_neg (by omega)]
  rw [e]
  have : 0 ≤ y * y := Int.mul_nonneg hy hy
  constructor <;> intro <;> omega
 ·obtain ⟨a, b, c⟩ := root_spec h0 h1
  unfold rootUp
  split
  ·rename_i h
   constructor
   ·intro hh
    have : (root n + 1) * (root n + 1) ≤ y * y := Int.mul_le_mul hh hh (by omega) (by omega)
    omega
   ·intro hh
    rcases Int.lt_or_le (root n) y with h2 | h2
    ·omega
    ·have : y * y ≤ root n * root n := Int.mul_le_mul h2 h2 (by omega) (by omega)
     omega
  ·rename_i h
   constructor
   ·intro hh
    have : root n * root n ≤ y * y := Int.mul_le_mul hh hh (by omega) (by omega)
    omega
   ·intro hh
    rcases Int.lt_or_le y (root n) with h2 | h2
    ·have : (y + 1) * (y + 1) ≤ root n * root n := Int.mul_le_mul (by omega) (by omega) (by omega) (by omega)
     have e : (y + 1) * (y + 1) = y * y + 2 * y + 1 := by rw [Int.add_mul, Int.mul_add]; omega
     omega
    ·omega
theorem rootUp_nonneg {n : Int} (h1 : n ≤ 9223372036854775807) : 0 ≤ rootUp n := by
 unfold rootUp
 have := (root_le h1).1
 split <;> omega
structure AimOk (a : Aim) : Prop where
 le : a.low ≤ a.high
 low : -120 ≤ a.low
 lowh : a.low ≤ 269
 high : -90 ≤ a.high
 highh : a.high ≤ 299
 near0 : 0 < a.near
 far0 : 0 < a.far
 nf : a.near ≤ a.far
 far1 : a.far ≤ 1070000000
theorem sq_range {x m : Int} (h0 : -m ≤ x) (h1 : x ≤ m) : 0 ≤ x * x ∧ x * x ≤ m * m :=
  ⟨by rcases Int.lt_or_le x 0 with h | h
      · have := Int.mul_nonneg (a := -x) (b := -x) (by omega) (by omega)
        rwa [Int.neg_mul_neg] at this
      · exact Int.mul_nonneg h h, (sq_abs (by omega)).2 ⟨h0, h1⟩⟩
theorem far_sq {a : Aim} (h : AimOk a) : 0 ≤ a.far * a.far ∧ a.far * a.far ≤ 1144900000000000000 := by
 have := sq_range (x := a.far) (m := 1070000000) (by have := h.far0; omega) h.far1
 omega
theorem near_sq {a : Aim} (h : AimOk a) : 0 ≤ a.near * a.near ∧ a.near * a.near ≤ 1144900000000000000 := by
 have := sq_range (x := a.near) (m := 1070000000) (by have := h.near0; omega) (by have := h.nf; have := h.far1; omega)
 omega
theorem cond0_iff (a : Aim) : cond0 a = true ↔ 0 < a.high ∧ a.low < 180 := by simp [cond0]
theorem misA_zero (a : Aim) (dx dy : Int) : misA a dx dy = 0 ↔ cond0 a = true ∧ cond1 a dx dy = true ∧ cond2 a dx dy = true ∧ cond3 a dx dy = true ∧ cond4 a dx dy = true := by
 unfold misA
 rcases cond0 a with _ | _ <;> rcases cond1 a dx dy with _ | _ <;> rcases cond2 a dx dy with _ | _ <;> rcases cond3 a dx dy with _ | _ <;> rcases cond4 a dx dy with _ | _ <;> simp
theorem fits_iff {a : Aim} (h : AimOk a) {dx dy : Int} (hx0 : 0 < dx) (hx1 : dx ≤ 100000) (hy0 : -100000 ≤ dy) (hy1 : dy ≤ 100000) :
  misA a dx dy = 0 ↔ (intA a dx).2.2 = true ∧ (intA a dx).1 ≤ dy ∧ dy ≤ (intA a dx).2.1 := by
 rw [misA_zero, cond0_iff]
 obtain ⟨x0, x1⟩ := sq_range (x := dx) (m := 100000) (by omega) hx1
 obtain ⟨y0, y1⟩ := sq_range (x := dy) (m := 100000) hy0 hy1
 obtain ⟨f0, f1⟩ := far_sq h
 obtain ⟨n0, n1⟩ := near_sq h
 by_cases hc : 0 < a.high ∧ a.low < 180
 ·have h3 : cond3 a dx dy = true ↔ dy * dy ≤ room a dx := by
   rw [cond3, decide_eq_true_eq, sq, room]
   generalize dx * dx = X at *
   generalize dy * dy = Y at *
   generalize a.far * a.far = F at *
   constructor <;> intro hh <;> omega
  by_cases hr : room a dx < 0
  ·rw [intA, if_pos (by omega)]
   have : ¬ cond3 a dx dy = true := by rw [h3]; omega
   simp [this]
  ·rw [intA, if_neg (by omega)]
   have hrt := le_root (n := room a dx) (y := dy) (by omega) (by unfold room; omega)
   have hrl := root_le (n := room a dx) (by unfold room; omega)
   have h3' : cond3 a dx dy = true ↔ -(hi1 a dx) ≤ dy ∧ dy ≤ hi1 a dx := by
    rw [h3, hrt]
    unfold hi1
    omega
   have h1 : cond1 a dx dy = true ↔ (0 < a.low → dy ≤ flo (dx * cos a.low) (sin a.low)) := by
    simp only [cond1, Bool.or_eq_true, decide_eq_true_eq]
    constructor
    ·rintro (hh | hh) hl
     ·omega
     ·exact (le_flo (sin_pos hl hc.2)).2 hh
    ·intro hh
     by_cases hl : 0 < a.low
     ·exact .inr ((le_flo (sin_pos hl hc.2)).1 (hh hl))
     ·exact .inl (by omega)
   have h2 : cond2 a dx dy = true ↔ (a.high < 180 → cei (dx * cos a.high) (sin a.high) ≤ dy) := by
    simp only [cond2, Bool.or_eq_true, decide_eq_true_eq]
    constructor
    ·rintro (hh | hh) hl
     ·omega
     ·exact (cei_le (sin_pos hc.1 hl)).2 hh
    ·intro hh
     by_cases hl : a.high < 180
     ·exact .inr ((cei_le (sin_pos hc.1 hl)).1 (hh hl))
     ·exact .inl (by omega)
   have h12 : (cond1 a dx dy = true ∧ cond2 a dx dy = true ∧ cond3 a dx dy = true) ↔ lo2 a dx ≤ dy ∧ dy ≤ hi2 a dx := by
    rw [h1, h2, h3']
    unfold lo2 hi2
    by_cases hl : 0 < a.low <;> by_cases hh : a.high < 180 <;> simp only [hl, hh, if_true, if_false, true_implies, false_implies, true_and, and_true] <;> omega
   have hle : cei (a.near * a.near) 100000000 - dx * dx ≤ 9223372036854775807 := by
    have := (cei_le (a := a.near * a.near) (b := 100000000) (x := a.near * a.near) (by decide)).2 (by omega)
    omega
   have h4 : cond4 a dx dy = true ↔ (90 < a.high ∧ a.low < 90) ∨ cei (a.near * a.near) 100000000 - dx * dx ≤ dy * dy := by
    simp only [cond4, Bool.or_eq_true, Bool.and_eq_true, decide_eq_true_eq]
    rw [sq]
    have := cei_le (a := a.near * a.near) (b := 100000000) (x := dx * dx + dy * dy) (by decide)
    generalize cei (a.near * a.near) 100000000 = C at *
    generalize dx * dx = X at *
    generalize dy * dy = Y at *
    generalize a.near * a.near = F at *
    constructor
    ·rintro (hh | hh)
     ·exact .inl hh
     ·have := this.2 (by omega)
      exact .inr (by omega)
    ·rintro (hh | hh)
     ·exact .inl hh
     ·have := this.1 (by omega)
      exact .inr (by omega)
   have key : (lo2 a dx ≤ dy ∧ dy ≤ hi2 a dx) ∧ cond4 a dx dy = true ↔ lo3 a dx ≤ dy ∧ dy ≤ hi3 a dx := by
    rw [h4]
    have hl0 : 0 ≤ least a dx := rootUp_nonneg hle
    have north : a.high ≤ 90 → lo2 a dx ≤ dy → 0 ≤ dy := by
     intro hh hlo
     have : cei (dx * cos a.high) (sin a.high) ≤ dy := by
      unfold lo2 at hlo
      rw [if_pos (by omega)] at hlo
      omega
     have hm := (cei_le (sin_pos hc.1 (by omega))).1 this
     have hp : 0 ≤ dx * cos a.high := Int.mul_nonneg (by omega) (cos_nonneg (by omega) hh)
     rcases Int.lt_or_le dy 0 with hd | hd
     ·have : dy * sin a.high < 0 := Int.mul_neg_of_neg_of_pos hd (sin_pos hc.1 (by omega))
      omega
     ·exact hd
    have south : 90 ≤ a.low → dy ≤ hi2 a dx → dy ≤ 0 := by
     intro hh hhi
     have : dy ≤ flo (dx * cos a.low) (sin a.low) := by
      unfold hi2 at hhi
      rw [if_pos (by omega)] at hhi
      omega
     have hm := (le_flo (sin_pos (by omega) hc.2)).1 this
     have hp : dx * cos a.low ≤ 0 := Int.mul_nonpos_of_nonneg_of_nonpos (by omega) (cos_nonpos hh hc.2)
     rcases Int.lt_or_le 0 dy with hd | hd
     ·have : 0 < dy * sin a.low := Int.mul_pos hd (sin_pos (by omega) hc.2)
      omega
     ·exact hd
    have up : 0 ≤ dy → (least a dx ≤ dy ↔ cei (a.near * a.near) 100000000 - dx * dx ≤ dy * dy) := fun hd => rootUp_le hle hd
    have dn : dy ≤ 0 → (dy ≤ -(least a dx) ↔ cei (a.near * a.near) 100000000 - dx * dx ≤ dy * dy) := by
     intro hd
     have := rootUp_le (y := -dy) hle (by omega)
     rw [Int.neg_mul_neg] at this
     rw [← this]
     unfold least
     omega
    have hle2 := h.le
    unfold lo3 hi3
    by_cases hn : a.high ≤ 90
    ·by_cases hs : 90 ≤ a.low
     ·rw [if_pos hn, if_pos hs]
      constructor
      ·rintro ⟨⟨p, q⟩, r⟩
       have a1 := north hn p
       have a2 := south hs q
       have r' := r.resolve_left (by omega)
       have := (up a1).2 r'
       have := (dn a2).2 r'
       omega
      ·rintro ⟨p, q⟩
       have a1 := north hn (by omega)
       have := (up a1).1 (by omega)
       exact ⟨⟨by omega, by omega⟩, .inr this⟩
     ·rw [if_pos hn, if_neg hs]
      constructor
      ·rintro ⟨⟨p, q⟩, r⟩
       have a1 := north hn p
       have := (up a1).2 (r.resolve_left (by omega))
       omega
      ·rintro ⟨p, q⟩
       have a1 := north hn (by omega)
       have := (up a1).1 (by omega)
       exact ⟨⟨by omega, by omega⟩, .inr this⟩
    ·by_cases hs : 90 ≤ a.low
     ·rw [if_neg hn, if_pos hs]
      constructor
      ·rintro ⟨⟨p, q⟩, r⟩
       have a1 := south hs q
       have := (dn a1).2 (r.resolve_left (by omega))
       omega
      ·rintro ⟨p, q⟩
       have a1 := south hs (by omega)
       have := (dn a1).1 (by omega)
       exact ⟨⟨by omega, by omega⟩, .inr this⟩
     ·rw [if_neg hn, if_neg hs]
      constructor
      ·rintro ⟨p, q⟩; exact p
      ·intro p; exact ⟨p, .inl (by omega)⟩
   have h123 := h12
   constructor
   ·rintro ⟨_, c1, c2, c3, c4⟩
    have := key.1 ⟨h12.1 ⟨c1, c2, c3⟩, c4⟩
    exact ⟨by simp; omega, this⟩
   ·rintro ⟨_, p⟩
    obtain ⟨q, c4⟩ := key.2 p
    obtain ⟨c1, c2, c3⟩ := h12.2 q
    exact ⟨hc, c1, c2, c3, c4⟩
 ·rw [intA, if_pos (by omega)]
  simp [hc]
end Cs
end Go.Proofs.YtcbeefbefapicaaGreatDoor

namespace Go.Proofs.YtcbeefbefapicaaGreatDoor
open Go.RowKit
namespace Cs
theorem norm_code2 (d : Int) : (d.tmod 360 + 360) % 360 = norm d := by
 obtain ⟨a, b, q, c⟩ := tm360 d
 rw [c, norm]
 omega
theorem tdiv_range (a b : Int) (ha : -9223372036854775807 ≤ a) (ha' : a ≤ 9223372036854775807) (hb : 0 < b) : -9223372036854775807 ≤ a.tdiv b ∧ a.tdiv b ≤ 9223372036854775807 := by
 have h := Int.natAbs_tdiv a b
 have h2 : a.natAbs / b.natAbs ≤ a.natAbs := Nat.div_le_self _ _
 have h3 : (a.tdiv b).natAbs ≤ a.natAbs := by rw [h]; exact h2
 omega
theorem flo_range (a b : Int) (ha : -9223372036854775807 ≤ a) (ha' : a ≤ 9223372036854775807) (hb : 0 < b) : -9223372036854775807 ≤ flo a b ∧ flo a b ≤ 9223372036854775807 := by
 unfold flo
 constructor
 ·rw [Int.le_ediv_iff_mul_le hb]
  have : -9223372036854775807 * b ≤ -9223372036854775807 * 1 := Int.mul_le_mul_of_nonpos_left (by decide) (by omega)
  omega
 ·have h : a / b < 9223372036854775808 := by
   rw [Int.ediv_lt_iff_lt_mul hb]
   have : (9223372036854775808 : Int) * 1 ≤ 9223372036854775808 * b := Int.mul_le_mul_of_nonneg_left (by omega) (by decide)
   omega
  omega
def hb : Nat → Int
 | 0 => 0
 | k + 1 => 2 ^ k
theorem hb_pos (k : Nat) : 0 < hb (k + 1) := Int.pow_pos (by decide)
theorem hb_top {k : Nat} (h : k ≤ 32) : 0 ≤ hb k ∧ hb k ≤ 2147483648 := by
 have : ∀ k ∈ List.range 33, 0 ≤ hb k ∧ hb k ≤ 2147483648 := by decide
 exact this k (List.mem_range.2 (by omega))
theorem hb_half (k : Nat) : hb (k + 1) / 2 = hb k := by
  cases k with
  | zero => rfl
  | succ k =>
    show (2 : Int) ^ (k + 1) / 2 = 2 ^ k
    rw [Int.pow_succ, Int.mul_ediv_cancel _ (by decide)]
theorem hb_dbl (k : Nat) : k = 0 ∨ hb (k + 1) = 2 * hb k := by
 cases k with
 | zero => exact .inl rfl
 | succ k => exact .inr (by show (2 : Int) ^ (k + 1) = 2 * 2 ^ k; rw [Int.pow_succ]; omega)
theorem tdiv_abs (a b : Int) (ha : -9223372036854775808 ≤ a) (ha' : a ≤ 9223372036854775807) (hb : 0 < b) : -9223372036854775808 ≤ a.tdiv b ∧ a.tdiv b ≤ 9223372036854775807 := by
 have h := Int.natAbs_tdiv a b
 have h2 : a.natAbs / b.natAbs ≤ a.natAbs := Nat.div_le_self _ _
 have h3 : (a.tdiv b).natAbs ≤ a.natAbs := by rw [h]; exact h2
 by_cases h4 : 0 ≤ a
 ·have := Int.tdiv_nonneg h4 (by omega : 0 ≤ b)
  omega
 ·have := Int.tdiv_nonneg (show 0 ≤ -a by omega) (by omega : 0 ≤ b)
  rw [Int.neg_tdiv] at this
  omega
theorem root_step {n r : Int} {k : Nat} (hr : 0 ≤ r) : (r + hb (k + 1) ≤ n.tdiv (r + hb (k + 1))) ↔ (r + 2 ^ k) * (r + 2 ^ k) ≤ n := by
 have hp := hb_pos k
 have e : hb (k + 1) = 2 ^ k := rfl
 rw [e] at hp ⊢
 obtain ⟨t, ht⟩ : ∃ t, r + 2 ^ k = t := ⟨_, rfl⟩
 rw [ht]
 have ht0 : 0 < t := by omega
 rcases Int.lt_or_le n 0 with h | h
 ·have h1 : n.tdiv t ≤ 0 := by
   have h2 : (-n).tdiv t ≥ 0 := Int.tdiv_nonneg (by omega) (by omega)
   rw [Int.neg_tdiv] at h2
   omega
  have h2 : 0 < t * t := Int.mul_pos ht0 ht0
  constructor <;> intro <;> omega
 ·rw [Int.tdiv_eq_ediv_of_nonneg h, Int.le_ediv_iff_mul_le ht0]
theorem rootF_neg {n : Int} (h : n < 0) (k : Nat) (r : Int) : rootF n k r = r := by
  induction k generalizing r with
  | zero => rfl
  | succ k ih =>
    rw [rootF, if_neg, ih]
    have : 0 ≤ (r + 2 ^ k) * (r + 2 ^ k) := by
      rcases Int.le_total 0 (r + 2 ^ k) with h | h
      · exact Int.mul_nonneg h h
      · rw [← Int.neg_mul_neg]
        exact Int.mul_nonneg (by omega) (by omega)
    omega
theorem root_code (n : Int) : rootF n 32 0 = root n := by
 unfold root
 split
 ·rename_i h; exact rootF_neg h _ _
 ·rfl
end Cs
theorem between_any (a b c : Int) (w : World) :
  Calls Tryz.prog 77 #[.int .i64 a, .int .i64 b, .int .i64 c] w fun e w' => e = .returned (.bool (decide (a ≤ b ∧ b ≤ c))) ∧ w = w' := by
 by_cases h : a ≤ b
 ·go_enter Tryz.func77, Tryz.ntmps77
  go_wp2
  go_ret
  exact ⟨ret_bool (by simp [h]), rfl⟩
 ·go_enter Tryz.func77, Tryz.ntmps77
  go_wp2
  go_ret
  exact ⟨ret_bool (by simp; omega), rfl⟩
theorem norm_any (d : Int) (w : World) :
  Calls Tryz.prog 79 #[.int .i64 d] w fun e w' => e = .returned (.int .i64 (Cs.norm d)) ∧ w = w' := by
 obtain ⟨h1, h2, q, h3⟩ := Cs.tm360 d
 have hc := Lib.hid (Cs.norm_code2 d)
 clear h3
 go_enter Tryz.func79, Tryz.ntmps79
 go_wp2
 go_ret
 exact ⟨ret_int hc.out, rfl⟩
theorem floor_any (a b : Int) (ha : -9223372036854775807 ≤ a) (ha' : a ≤ 9223372036854775807) (hb : 0 < b) (w : World) :
  Calls Tryz.prog 192 #[.int .i64 a, .int .i64 b] w fun e w' => e = .returned (.int .i64 (Cs.flo a b)) ∧ w = w' := by
 have hq := Cs.tdiv_flo a b hb
 have hr := Cs.tdiv_range a b ha ha' hb
 have hb0 : ¬ b = 0 := by omega
 have HQ := Lib.hid hq
 obtain ⟨r1, r2⟩ := hr
 clear hq
 by_cases h : a.tmod b < 0
 ·go_enter Tryz.func192, Tryz.ntmps192
  go_wp2
  go_ret
  have := HQ.out
  rw [if_pos h] at this
  exact ⟨ret_int (by omega), rfl⟩
 ·go_enter Tryz.func192, Tryz.ntmps192
  go_wp2
  go_ret
  have := HQ.out
  rw [if_neg (by omega)] at this
  exact ⟨ret_int (by omega), rfl⟩
theorem ceil_any (a b : Int) (ha : -9223372036854775807 ≤ a) (ha' : a ≤ 9223372036854775807) (hb : 0 < b) (w : World) :
  Calls Tryz.prog 195 #[.int .i64 a, .int .i64 b] w fun e w' => e = .returned (.int .i64 (Cs.cei a b)) ∧ w = w' := by
 have hr := Cs.flo_range (-a) b (by omega) (by omega) hb
 obtain ⟨r1, r2⟩ := hr
 have hc : Cs.cei a b = -(Cs.flo (-a) b) := rfl
 obtain ⟨q, hq⟩ : ∃ q, Cs.flo (-a) b = q := ⟨_, rfl⟩
 have hfa := fun w => floor_any (-a) b (by omega) (by omega) hb w
 rw [hq] at hc r1 r2
 simp only [hq] at hfa
 rw [hc]
 have HFA := Lib.hid hfa
 clear hfa hc hq
 go_enter Tryz.func195, Tryz.ntmps195
 go_wp2_with (go_at_call 192; refine (HFA.out _).mono ?_; rintro e w' ⟨rfl, rfl⟩)
 go_ret
 exact ⟨rfl, rfl⟩
set_option maxHeartbeats 1000000 in
theorem root_any (n : Int) (hn : -9223372036854775808 ≤ n) (hn' : n ≤ 9223372036854775807) (w : World) :
  Calls Tryz.prog 191 #[.int .i64 n] w fun e w' => e = .returned (.int .i64 (Cs.root n)) ∧ w = w' := by
 have HC := Lib.hid (Cs.root_code n)
 go_enter Tryz.func191, Tryz.ntmps191
 go_wp2
 go_loop [3, 4] (fun r b => ∃ (k : Nat) (x : Int), k ≤ 32 ∧ b = .int .i64 (Cs.hb k) ∧ r = .int .i64 x ∧ 0 ≤ x ∧ x ≤ 4294967296 - Cs.hb k * 2 ∧ Cs.rootF n k x = Cs.rootF n 32 0) (fun _ b => (intOf b).toNat)
 case atStart => exact ⟨32, 0, by omega, rfl, rfl, by omega, by decide, rfl⟩
 case round =>
  obtain ⟨k, x, hk, rfl, rfl, hx0, hx1, hF⟩ := hrel
  rcases k with _ | k
  ·have hF2 : x = Cs.root n := by rw [← HC.out, ← hF]; rfl
   have HF := Lib.hid hF2
   have h0 : Cs.hb 0 = 0 := rfl
   clear hF hF2
   go_wp2
   go_ret
   exact ⟨ret_int HF.out, rfl⟩
  ·have hp := Cs.hb_pos k
   have ht := (Cs.hb_top hk).2
   have hs := Cs.root_step (n := n) (k := k) hx0
   have hh := Cs.hb_half k
   have hd := Cs.hb_dbl k
   rw [Cs.rootF] at hF
   obtain ⟨B, hB⟩ : ∃ B, Cs.hb (k + 1) = B := ⟨_, rfl⟩
   rw [hB] at hp ht hs hh hd hx1 ⊢
   have e2 : (2 : Int) ^ k = B := hB
   rw [e2] at hs hF
   have HB := Lib.hid hB
   have hq0 : ¬ (x + B = 0) := by omega
   have hr := Cs.tdiv_abs n (x + B) hn hn' (by omega)
   by_cases hc : x + B ≤ n.tdiv (x + B)
   ·rw [if_pos (hs.1 hc)] at hF
    have HF := Lib.hid hF
    have HH := Lib.hid hh
    have HD := Lib.hid hd
    clear hF hs hh e2 hB hd
    go_wp2
    refine ⟨⟨k, _, by omega, by rw [HH.out], rfl, by omega, ?_, HF.out⟩, by simp [intOf]; omega⟩
    rcases HD.out with rfl | e
    ·have : Cs.hb 0 = 0 := rfl
     omega
    ·omega
   ·rw [if_neg (fun e => hc (hs.2 e))] at hF
    have HF := Lib.hid hF
    have HH := Lib.hid hh
    have HD := Lib.hid hd
    clear hF hs hh e2 hB hd
    go_wp2
    refine ⟨⟨k, _, by omega, by rw [HH.out], rfl, by omega, ?_, HF.out⟩, by simp [intOf]; omega⟩
    rcases HD.out with rfl | e
    ·have : Cs.hb 0 = 0 := rfl
     omega
    ·omega
end Go.Proofs.YtcbeefbefapicaaGreatDoor

namespace Go.Proofs.YtcbeefbefapicaaGreatDoor
open Go.RowKit Go.Shelf
theorem wpOpIn_round {F : Fence} {n : Nat} {P : Program} {ops : Array Oper} {Q : Exit → Act → World → Prop} {i l : Nat} {K K' : Act → World → Prop} {a : Act} {w : World} (hro : F.round = none) (hd : ∀ o ∈ ops, ∀ c, o.op ≠ .defer c)
    (hK : ∀ a w, K a w → K' a w) (h : wpOpIn F n P ops Q i K a w) : wpOpIn (F.inRound l) n P ops Q i K' a w := by
  have h := wpOpIn_mono hK h
  unfold wpOpIn at *
  cases ho : ops[i]? with
  | none => simpa [ho] using h
  | some o =>
    simp only [ho] at h ⊢
    split
    · rename_i hw
      simp only [hw, if_true] at h
      unfold Oper.wpIn at *
      refine ⟨h.1, ?_⟩
      have h2 := h.2
      rw [Oper.semAt_eq _ _ _ (hd o (Array.mem_of_getElem? ho))] at h2 ⊢
      exact h2
    · rename_i hw
      simp only [hw] at h
      exact h
theorem wpAnyIn_round {F : Fence} {n : Nat} {P : Program} {md : Region.Mode} {ops : Array Oper} {Q : Exit → Act → World → Prop} {l : Nat} (hro : F.round = none) (hd : ∀ o ∈ ops, ∀ c, o.op ≠ .defer c) :
  ∀ (fuel : Nat) (listed : Array Bool) (a : Act) (w : World), wpAnyIn F n P md ops Q fuel listed a w → wpAnyIn (F.inRound l) n P md ops Q fuel listed a w
 | 0, _, _, _, h => h
 | fuel + 1, _, _, _, h => ⟨h.1, fun i hi => wpOpIn_round hro hd (fun a w h => wpAnyIn_round hro hd fuel _ a w h) (h.2 i hi)⟩
def noDefer (l : List Oper) : Bool := l.all fun o => match o.op with | .defer _ => false | _ => true
theorem noDefer_spec {l : List Oper} (h : noDefer l = true) : ∀ o ∈ l.toArray, ∀ c, o.op ≠ .defer c := fun o ho c e => by
 have := List.all_eq_true.1 h o (by simpa using ho)
 rw [e] at this
 cases this
theorem wpIn_region_quiet_round {F : Fence} {n : Nat} {P : Program} {id lr : Nat} {Q : Exit → Act → World → Prop} {a : Act} {w : World} {l : List Oper} (hro : F.round = none) (hm : P.follows .mixedOrders = true) (hd : noDefer l = true) (hB : Region.lexB .any l.toArray = true)
  (h : wpQuietIn F n P l.toArray (fun w' => ∃ n, w' = w.drewN n) (fun a' => ∀ w', (∃ n, w' = w.drewN n) → Q .normal a' w') l a) : (Code.region id l.toArray true).wpIn (F.inRound lr) n P Q a w := by
 simp only [Region.lexB, Bool.and_eq_true] at hB
 refine wpIn_region_any hm (wpAnyIn_round hro (noDefer_spec hd) _ _ _ _ (wpAnyIn_of_quiet (C := fun w' => ∃ n, w' = w.drewN n) (Q := fun a' => ∀ w', (∃ n, w' = w.drewN n) → Q .normal a' w') hro (fun _ w' hw' h => h w' hw') _ _ _ _ ⟨1, rfl⟩ ?_))
 have := wpAnyQIn_lex (F := F) (n := n) (C := fun w' => ∃ n, w' = w.drewN n) (md := .any) hB.1 l 0 (Array.replicate l.toArray.size false) a (by simp) (by simpa using hB.2) h
 simpa using this
def mark (D : Nat) : Deferred := { target := .collected D, args := #[] }
theorem leaves_marks {F : Fence} {n : Nat} {P : Program} {fn : Func} {tmps : Array Value} {R : Ending → World → Prop} : ∀ (Ds : List Nat) (w : World), Ds.Nodup → (∀ D ∈ Ds, w.heap[D]? = some (.deferred (some []))) →
    (∀ w', KeepX w.heap.size (· ∈ Ds) w w' → LeavesIn F n P fn tmps R [] .returning w') → LeavesInM F n P fn tmps R (Ds.map mark) .returning w
  | [], w, _, _, h => h w (KeepX.refl _ _ _)
  | D :: Ds, w, hn, hD, h => by
    have hK := hD D (by simp)
    obtain ⟨hnot, hn'⟩ := List.nodup_cons.1 hn
    have hg := grownBy_putObj' w D (.deferred none)
    refine ⟨by simp, .inl ⟨D, _, rfl, run_takeDeferred hK, ?_⟩⟩
    refine leaves_marks Ds _ hn' (fun E hE => ?_) (fun w' hw => h w' ?_)
    · have hEl := (Array.getElem?_eq_some_iff.1 (hD E (by simp [hE]))).1
      rw [hg.block E hEl (fun e => by cases e; exact hnot hE)]
      exact hD E (by simp [hE])
    · have h1 : KeepX w.heap.size (· ∈ D :: Ds) w (w.putObj D (.deferred none)) := .of_grown hg (Nat.le_refl _) (fun k e _ => by cases e; simp)
      exact h1.trans (hw.mono (by simp [World.putObj]) (fun k _ hk => by simp [hk]))
theorem leaves_marks_panic {F : Fence} {n : Nat} {P : Program} {fn : Func} {tmps : Array Value} {R : Ending → World → Prop} {chain : List PanicEntry} : ∀ (Ds : List Nat) (w : World), Ds.Nodup → (∀ D ∈ Ds, w.heap[D]? = some (.deferred (some []))) →
    (∀ w', KeepX w.heap.size (· ∈ Ds) w w' → R (.panicked chain) w') → LeavesInM F n P fn tmps R (Ds.map mark) (.panicking chain) w
  | [], w, _, _, h => h w (KeepX.refl _ _ _)
  | D :: Ds, w, hn, hD, h => by
    have hK := hD D (by simp)
    obtain ⟨hnot, hn'⟩ := List.nodup_cons.1 hn
    have hg := grownBy_putObj' w D (.deferred none)
    refine ⟨by simp, .inl ⟨D, _, rfl, run_takeDeferred hK, ?_⟩⟩
    refine leaves_marks_panic Ds _ hn' (fun E hE => ?_) (fun w' hw => h w' ?_)
    · have hEl := (Array.getElem?_eq_some_iff.1 (hD E (by simp [hE]))).1
      rw [hg.block E hEl (fun e => by cases e; exact hnot hE)]
      exact hD E (by simp [hE])
    · have h1 : KeepX w.heap.size (· ∈ D :: Ds) w (w.putObj D (.deferred none)) := .of_grown hg (Nat.le_refl _) (fun k e _ => by cases e; simp)
      exact h1.trans (hw.mono (by simp [World.putObj]) (fun k _ hk => by simp [hk]))
theorem upon_wide {P : Program} {o : Oper} {a : Act} {next : Act → World → Prop} {Q : Exit → Act → World → Prop} {r : Result Next} {n l : Nat} (h : o.upon P a next Q r) : o.uponIn (Fence.wide.inRound l) n P a next Q r := by
  have hd : (Fence.wide.inRound l).depth.isSome = true → 1 ≤ n := fun h => by cases h
  cases r with
  | ok x w =>
    cases x with
    | value v => exact h
    | skip => exact h
    | defer d => exact h
    | enter f args => exact ⟨hd, callsIn_wide.2 h⟩
    | row row args => exact ⟨hd, fun c cs _ => let ⟨v, w', hr, s⟩ := h c cs; ⟨v, w', hr, stepsIn_wide.2 s⟩⟩
    | _ => exact absurd h (by simp [Oper.upon])
  | halt x w =>
    cases x with
    | panic v => exact h
    | _ => exact absurd h (by simp [Oper.upon])
theorem wpOpIn_of_plain {P : Program} {ops : Array Oper} {Q : Exit → Act → World → Prop} {i n l : Nat} {K K' : Act → World → Prop} {a : Act} {w : World} (hd : ∀ o ∈ ops, ∀ c, o.op ≠ .defer c) (hQ : ¬ LetsOut Q)
    (hK : ∀ a w, K a w → K' a w) (h : wpOp P ops Q i K a w) : wpOpIn (Fence.wide.inRound l) n P ops Q i K' a w := by
  unfold wpOp at h
  unfold wpOpIn
  cases ho : ops[i]? with
  | none =>
    simp only [ho] at h ⊢
    exact hK _ _ h
  | some o =>
    simp only [ho] at h ⊢
    split
    · rename_i hw
      simp only [hw, if_true] at h
      rcases h with h | h
      · have h := Oper.wp_mono hK h
        unfold Oper.wp at h
        unfold Oper.wpIn
        refine ⟨fun _ _ => trivial, ?_⟩
        rw [Oper.semAt_eq _ _ _ (hd o (Array.mem_of_getElem? ho))]
        exact upon_wide h
      · exact absurd h.2 hQ
    · rename_i hw
      simp only [hw] at h
      exact ⟨fun _ _ => trivial, hK _ _ h⟩
theorem wpAnyIn_of_plain {P : Program} {md : Region.Mode} {ops : Array Oper} {Q : Exit → Act → World → Prop} {n l : Nat} (hd : ∀ o ∈ ops, ∀ c, o.op ≠ .defer c) (hQ : ¬ LetsOut Q) :
  ∀ (fuel : Nat) (listed : Array Bool) (a : Act) (w : World), wpAny P md ops Q fuel listed a w → wpAnyIn (Fence.wide.inRound l) n P md ops Q fuel listed a w
 | 0, _, _, _, h => h
 | fuel + 1, _, _, _, h => ⟨h.1, fun i hi => wpOpIn_of_plain hd hQ (fun a w h => wpAnyIn_of_plain hd hQ fuel _ a w h) (h.2 i hi)⟩
def QLast (P : Program) (ops : Array Oper) (o : Oper) (Q : Exit → Act → World → Prop) : Exit → Act → World → Prop
 | .normal, a, w => wpList P ops Q [o] a w
 | .panic c, a, w => Q (.panic c) a w
 | .outgrown, a, w => Q .outgrown a w
 | _, _, _ => False
def lastB (l : List Oper) (o : Oper) : Bool :=
 (l ++ [o]).all (fun x => x.guard.isNone) &&
 (List.range l.length).all (fun j => match l[j]? with | some x => x.after.all (fun e => decide (e.on < j)) | none => true) &&
 o.after.all (fun e => decide (e.on < l.length)) &&
 (List.range l.length).all (fun i => o.after.any (fun e => Region.binds .any e && e.on == i))
section
variable {P : Program} {Q : Exit → Act → World → Prop} {l : List Oper} {o : Oper}
theorem wanted_free {x : Oper} (h : x.guard.isNone = true) (f : Nat → Option Bool) : Region.wanted x f = true := by
 unfold Region.wanted
 cases hg : x.guard with
 | none => rfl
 | some g => rw [hg] at h; cases h
theorem wpOp_last {ops : Array Oper} (hg : ∀ x ∈ l ++ [o], x.guard.isNone = true) {i : Nat} (hi : i < l.length) {K K' : Act → World → Prop} (hK : ∀ a w, K a w → K' a w) {a : Act} {w : World}
    (h : wpOp P l.toArray (QLast P ops o Q) i K a w) : wpOp P (l ++ [o]).toArray Q i K' a w := by
  unfold wpOp at h ⊢
  have e1 : l.toArray[i]? = some l[i] := by simp [hi]
  have e2 : (l ++ [o]).toArray[i]? = some l[i] := by simp [List.getElem?_append_left hi, hi]
  rw [e1] at h
  rw [e2]
  dsimp only at h ⊢
  have hw := hg l[i] (by simp)
  rw [if_pos (wanted_free hw _)] at h ⊢
  rcases h with h | h
  · left
    have h := Oper.wp_mono hK h
    unfold Oper.wp at h ⊢
    generalize (execOp a.eval l[i]).run P w = r at h ⊢
    cases r with
    | ok n w' =>
      cases n <;> simp only [Oper.upon] at h ⊢
      all_goals first | exact h | exact Calls.mono h fun e w'' he => by cases e <;> exact he
    | halt x w' =>
      cases x <;> simp only [Oper.upon] at h ⊢
      all_goals exact h
  · exact .inr ⟨h.1, h.2⟩
theorem wpAny_last (hB : lastB l o = true) :
    ∀ (fuel : Nat) (listed : Array Bool) (a : Act) (w : World), listed.size = l.length → wpAny P .any l.toArray (QLast P (l ++ [o]).toArray o Q) fuel listed a w → wpAny P .any (l ++ [o]).toArray Q (fuel + 1) (listed.push false) a w := by
  simp only [lastB, Bool.and_eq_true, List.all_eq_true, List.mem_range] at hB
  obtain ⟨⟨⟨hg, hlt⟩, ho⟩, hs⟩ := hB
  have hon : ∀ (j : Nat) (x : Oper), l[j]? = some x → ∀ e ∈ x.after, e.on < j := fun j x hj e he => by
    have hjl : j < l.length := (List.getElem?_eq_some_iff.1 hj).1
    have := hlt j hjl
    rw [hj] at this
    have := Array.all_eq_true_iff_forall_mem.1 this e he
    simpa using this
  have hget : ∀ (L : Array Bool), L.size = l.length → ∀ i, i < l.length → ∀ d : Bool, (L.push false).getD i d = L.getD i d := fun L hL i hi d => by
    simp [Array.getD, hL, hi, Array.getElem_push, show i < l.length + 1 by omega]
  -- who is ready
  have hrd : ∀ (L : Array Bool), L.size = l.length → ∀ i, i ∈ Region.ready .any (l ++ [o]).toArray (L.push false) → i < l.length → i ∈ Region.ready .any l.toArray L := fun L hL i hi hil => by
    obtain ⟨h1, x, hx, h2⟩ := mem_ready.1 hi
    have hx' : l[i]? = some x := by simpa [List.getElem?_append_left hil] using hx
    refine mem_ready.2 ⟨by rw [hget L hL i hil] at h1; exact h1, x, by simpa using hx', fun e he hb => ?_⟩
    have := h2 e he hb
    rw [hget L hL _ (by have := hon i x hx' e he; omega)] at this
    exact this
  have hrl : ∀ (L : Array Bool), L.size = l.length → l.length ∈ Region.ready .any (l ++ [o]).toArray (L.push false) → ∀ i, i < l.length → L.getD i false = true := fun L hL hr i hi => by
    obtain ⟨h1, x, hx, h2⟩ := mem_ready.1 hr
    have hx' : x = o := by simpa using hx.symm
    subst hx'
    have := hs i hi
    obtain ⟨e, he, hb⟩ := Array.any_eq_true'.1 this
    simp only [Bool.and_eq_true, beq_iff_eq] at hb
    have := h2 e he hb.1
    rw [hb.2, hget L hL i hi] at this
    exact this
  have hnone : ∀ (L : Array Bool), L.size = l.length → Region.ready .any (l ++ [o]).toArray (L.push false) ≠ [] := fun L hL h0 => by
    -- the least that is not listed is ready
    have key : ∀ i, i ≤ l.length → ∀ j, j < i → L.getD j false = true := by
      intro i
      induction i with
      | zero => intro _ j hj; omega
      | succ i ih =>
        intro hi j hj
        rcases Nat.lt_or_ge j i with e | e
        · exact ih (by omega) j e
        · obtain rfl : j = i := by omega
          refine Classical.byContradiction fun hne => ?_
          have hil : j < l.length := by omega
          have : j ∈ Region.ready .any (l ++ [o]).toArray (L.push false) := by
            refine mem_ready.2 ⟨?_, l[j], by simp [List.getElem?_append_left hil, hil], fun e he hb => ?_⟩
            · rw [hget L hL j hil]
              have : j < L.size := by omega
              simp [Array.getD, this] at hne ⊢
              exact hne
            · have hlt := hon j l[j] (by simp [hil]) e he
              rw [hget L hL _ (by omega)]
              exact ih (by omega) _ hlt
          rw [h0] at this
          cases this
    have hr : l.length ∈ Region.ready .any (l ++ [o]).toArray (L.push false) := by
      refine mem_ready.2 ⟨by rw [← hL]; simp [Array.getD], o, by simp, fun e he hb => ?_⟩
      have hlt : e.on < l.length := by simpa using Array.all_eq_true_iff_forall_mem.1 ho e he
      rw [hget L hL _ hlt]
      exact key l.length (Nat.le_refl _) _ hlt
    rw [h0] at hr
    cases hr
  have hdone : ∀ (L : Array Bool), L.size = l.length → (∀ i, i < l.length → L.getD i false = true) → Region.ready .any (l ++ [o]).toArray ((L.push false).setIfInBounds l.length true) = [] := fun L hL hall => by
    rw [List.eq_nil_iff_forall_not_mem]
    intro i hi
    obtain ⟨h1, x, hx, _⟩ := mem_ready.1 hi
    have hil : i < l.length + 1 := by simpa using (Array.getElem?_eq_some_iff.1 hx).1
    rcases Nat.lt_or_ge i l.length with e | e
    · have := hall i e
      have hi2 : i < L.size := by omega
      simp [Array.getD, hi2] at this
      simp [Array.getD, hL, Array.getElem_setIfInBounds, Array.getElem_push, e, hil, this, show ¬ l.length = i by omega] at h1
    · obtain rfl : i = l.length := by omega
      simp [Array.getD, hL] at h1
  have hlast : ∀ (L : Array Bool) (fuel : Nat) (a : Act) (w : World), L.size = l.length → (∀ i, i < l.length → L.getD i false = true) → wpList P (l ++ [o]).toArray Q [o] a w → wpOp P (l ++ [o]).toArray Q l.length (wpAny P .any (l ++ [o]).toArray Q fuel ((L.push false).setIfInBounds l.length true)) a w := fun L fuel a w hL hall hq => by
    have hd := hdone L hL hall
    have hfin : ∀ a w, Q .normal a w → wpAny P .any (l ++ [o]).toArray Q fuel ((L.push false).setIfInBounds l.length true) a w := fun a w h => by
      cases fuel with
      | zero => exact ⟨hd, h⟩
      | succ f => exact ⟨fun _ => h, by rw [hd]; simp⟩
    unfold wpOp
    have e2 : (l ++ [o]).toArray[l.length]? = some o := by simp
    rw [e2]
    dsimp only
    have hw := hg o (by simp)
    rw [if_pos (wanted_free hw _)]
    unfold wpList at hq
    rw [if_pos (wanted_free hw _)] at hq
    rcases hq with hq | hq
    · exact .inl (Oper.wp_mono (fun a w h => hfin a w h) hq)
    · exact .inr hq
  intro fuel
  induction fuel with
  | zero =>
    intro listed a w hL h
    refine ⟨fun h0 => absurd h0 (hnone listed hL), fun i hi => ?_⟩
    have hil : i < l.length + 1 := by
      obtain ⟨_, x, hx, _⟩ := mem_ready.1 hi
      simpa using (Array.getElem?_eq_some_iff.1 hx).1
    rcases Nat.lt_or_ge i l.length with e | e
    · have := hrd listed hL i hi e
      rw [h.1] at this
      cases this
    · obtain rfl : i = l.length := by omega
      exact hlast listed 0 a w hL (hrl listed hL hi) h.2
  | succ fuel ih =>
    intro listed a w hL h
    refine ⟨fun h0 => absurd h0 (hnone listed hL), fun i hi => ?_⟩
    have hil : i < l.length + 1 := by
      obtain ⟨_, x, hx, _⟩ := mem_ready.1 hi
      simpa using (Array.getElem?_eq_some_iff.1 hx).1
    rcases Nat.lt_or_ge i l.length with e | e
    · refine wpOp_last hg e (fun a w k => ?_) (h.2 i (hrd listed hL i hi e))
      have := ih (listed.setIfInBounds i true) a w (by simpa using hL) k
      have he : (listed.setIfInBounds i true).push false = (listed.push false).setIfInBounds i true := by
        apply Array.ext_getElem?
        intro j
        simp only [Array.getElem?_push, Array.getElem?_setIfInBounds, Array.size_setIfInBounds, Array.size_push, hL]
        by_cases h1 : i = j
        · subst h1
          simp [e, show ¬ i = l.length by omega, show i < l.length + 1 by omega]
        · by_cases h2 : j = l.length
          · subst h2; simp [h1, show ¬ i = l.length by omega]
          · simp [h1, h2]
      rw [he] at this
      exact this
    · obtain rfl : i = l.length := by omega
      have hall := hrl listed hL hi
      refine hlast listed _ a w hL hall (h.1 ?_)
      rw [List.eq_nil_iff_forall_not_mem]
      intro j hj
      obtain ⟨h1, x, hx, _⟩ := mem_ready.1 hj
      have hjl : j < l.length := by simpa using (Array.getElem?_eq_some_iff.1 hx).1
      have := hall j hjl
      have hj2 : j < listed.size := by omega
      simp [Array.getD, hj2] at this h1
      rw [this] at h1
      cases h1
end
theorem wpIn_region_last_round {P : Program} {id lr m : Nat} {S : World → Prop} {Q : Exit → Act → World → Prop} {a : Act} {w : World} (l : List Oper) (o : Oper) (hm : P.follows .mixedOrders = true) (hd : noDefer (l ++ [o]) = true) (hB : lastB l o = true) (hQ : ¬ LetsOut Q) (hS : S w.drew)
  (h : S w.drew → wpAnyH P .any l.toArray (QLast P (l ++ [o]).toArray o Q) S l.length (Array.replicate l.length false) a w.drew) : (Code.region id (l ++ [o]).toArray true).wpIn (Fence.wide.inRound lr) m P Q a w := by
 have h2 := wpAny_last hB l.length (Array.replicate l.length false) a w.drew (by simp) (wpAny_of_held _ _ _ _ (h hS))
 have e : (Array.replicate l.length false).push false = Array.replicate (l ++ [o]).toArray.size false := by simp [Array.replicate_succ]
 have e2 : l.length + 1 = (l ++ [o]).toArray.size := by simp
 rw [e, e2] at h2
 exact wpIn_region_any hm (wpAnyIn_of_plain (noDefer_spec hd) hQ _ _ _ _ h2)
theorem ops_last {ops : Array Oper} {o : Oper} (n : Nat) (ho : ops[n]? = some o) (hn : ops.size = n + 1) : (ops.toList.take n).length = n ∧ (ops.toList.take n ++ [o]).toArray = ops := by
 have hl : (ops.toList.take n).length = n := by simp; omega
 refine ⟨hl, ?_⟩
 apply Array.ext_getElem?
 intro i
 rcases Nat.lt_or_ge i n with h1 | h1
 ·simp [List.getElem?_append_left (show i < (ops.toList.take n).length by omega), List.getElem?_take, h1]
 ·rcases Nat.lt_or_ge n i with h2 | h2
  ·rw [Array.getElem?_eq_none (by simp; omega), Array.getElem?_eq_none (by omega)]
  ·obtain rfl : i = n := by omega
   rw [ho]
   simp [List.getElem?_append_right (show (ops.toList.take i).length ≤ i by omega), hl]
theorem wpIn_region_last_round2 {P : Program} {id lr m : Nat} {S : World → Prop} {Q : Exit → Act → World → Prop} {a : Act} {w : World} {ops : Array Oper} {o : Oper} (n : Nat) (ho : ops[n]? = some o) (hn : ops.size = n + 1) (hm : P.follows .mixedOrders = true) (hd : noDefer ops.toList = true)
  (hB : lastB (ops.toList.take n) o = true) (hQ : ¬ LetsOut Q) (hS : S w.drew)
  (h : S w.drew → wpAnyH P .any (ops.toList.take n).toArray (QLast P ops o Q) S n (Array.replicate n false) a w.drew) : (Code.region id ops true).wpIn (Fence.wide.inRound lr) m P Q a w := by
 obtain ⟨hl, e⟩ := ops_last n ho hn
 have hd' : noDefer (ops.toList.take n ++ [o]) = true := by
  have : ops.toList.take n ++ [o] = ops.toList := by simpa using congrArg Array.toList e
  rw [this]; exact hd
 have h2 := wpIn_region_last_round (Q := Q) (id := id) (lr := lr) (m := m) (S := S) (a := a) (w := w) (ops.toList.take n) o hm hd' hB hQ hS
 rw [hl, e] at h2
 exact h2 h
theorem step_append_rd {P : Program} {w : World} {ops : Array Oper} {o : Oper} {a : Act} {K : Act → World → Prop} {Q : Exit → Act → World → Prop} {E : Prop} (hgd : o.guard = none) (s x : Operand) (t : TypeId)
  (ho : o.op = .call { callee := .builtin .append, args := #[s, x], argTypes := #[t, t] })
  (base : Nat) (e : TypeId) (i : TypeInfo) (z : Value) (size bytes : Nat) (ht : P.underlying t = some (.slice e)) (hi : P.info? e = some i) (hz : i.zero = some z)
  (hsize : i.size = size) (hby : i.bytes = bytes) (hzs : z.cells.size = size) (hsz : 0 < size)
  (v : Value) (n : Nat) (xs : List Value) (hs : a.eval s = v) (hown : w.ownsRow base e size v n xs)
  (A : Option Addr) (m c : Nat) (B : Nat) (news : List Value) (hx : a.eval x = .slice A m c) (hrd : Rd w B size A m news) (h1 : ∀ u ∈ news, u.oneCell' = true)
  (h63 : n + m ≤ maxLen) (hbytes : (n + m) * bytes ≤ 140737488355328) (hbase : base ≤ w.heap.size)
  (h : ∀ v' w', w'.ownsRow base e size v' (n + m) (xs ++ news) → w.grownBy w' v.ownBlock → (v'.ownBlock = v.ownBlock ∨ v'.ownBlock = some w.heap.size) → K (a.put o.dst v') w') :
  if Region.wanted o (yielded ops a.tmps) = true then Oper.wp P o a w K Q else E := by
 have hw : Region.wanted o (yielded ops a.tmps) = true := by simp [Region.wanted, hgd]
 rw [if_pos hw]
 have main : ∀ (ad : Addr), A = some ad → (∀ j u, news[j]? = some u → w.cell? (ad.add j) = some u) → Oper.wp P o a w K Q := fun ad hA hn => by
  subst hA
  obtain ⟨v', w', hr, h2, h3, h4, h5⟩ := run_append_own_at (P := P) w base t o.type e i z size bytes ht hi hz hsize hby hzs hsz v n xs hown ad m c news hrd.1 hn h1 h63 hbytes hbase
  unfold Oper.wp execOp
  simp only [ho, resolve, invoke, builtin, Sem.run_bind, Sem.run_pure, Result.andThen_ok, List.map_toArray, List.map_cons, List.map_nil, hs, hx, hr]
  exact h v' w' h2 h3 h5
 by_cases hm : m = 0
 ·subst hm
  have hn : news = [] := List.eq_nil_of_length_eq_zero (by have := hrd.1; omega)
  subst hn
  rcases hA : A with _ | ad
  ·subst hA
   have hrun : (Builtin.append_ #[t, t] o.type #[v, .slice none 0 c]).run P w = .ok v w := by
    rcases hown.2 with ⟨rfl, rfl⟩ | ⟨g, cap, cur, rfl, _, _, hnc, _⟩
    ·simp [Builtin.append_, run_underlying ht, sizeOf, typeInfo, hi, Builtin.lenOf, Builtin.firstCells]
    ·simp [Builtin.append_, run_underlying ht, sizeOf, typeInfo, hi, Builtin.lenOf, Builtin.firstCells, hnc, storeCells]
   have hk := h v w (by simpa using hown) ⟨rfl, rfl, rfl, Nat.le_refl _, fun _ _ _ => rfl⟩ (.inl rfl)
   unfold Oper.wp
   simp [execOp, ho, resolve, invoke, builtin, hs, hx, hrun, Result.andThen]
   exact hk
  ·exact main ad hA (fun j u hj => by simp at hj)
 ·obtain ⟨b, off, hA, hb, hc⟩ := hrd.2 (by omega)
  refine main _ hA (fun j u hj => ?_)
  have hjl : j < news.length := (List.getElem?_eq_some_iff.1 hj).1
  rw [hrd.1] at hjl
  rw [show (⟨b, off, none⟩ : Addr).add j = ⟨b, off + j, none⟩ from by unfold Addr.add; split <;> simp_all, hc j hjl, hj]
end Go.Proofs.YtcbeefbefapicaaGreatDoor

namespace Go.Proofs.YtcbeefbefapicaaGreatDoor
namespace Cs
theorem courseOk_iff (c : Co) : courseOk c = true ↔ (0 ≤ c.b ∧ c.b ≤ 359) ∧ (0 ≤ c.n ∧ c.n ≤ 30) ∧ (1 ≤ c.l ∧ c.l ≤ 100000) ∧ (1 ≤ c.y ∧ c.y ≤ 3000) ∧ (-500 ≤ c.w ∧ c.w ≤ 500) ∧ (0 ≤ c.s ∧ c.s ≤ 200) := by
 simp only [courseOk, chainOk, Bool.and_eq_true, decide_eq_true_eq]
 constructor
 ·rintro ⟨⟨a, b, d, e, f⟩, g, h, i, j⟩
  exact ⟨a, b, d, ⟨e, f⟩, ⟨g, h⟩, ⟨i, j⟩⟩
 ·rintro ⟨a, b, d, ⟨e, f⟩, ⟨g, h⟩, ⟨i, j⟩⟩
  exact ⟨⟨a, b, d, e, f⟩, g, h, i, j⟩
theorem mid_range (vs : List (Int × Int)) (c : Co) : -90 ≤ midF vs c ∧ midF vs c ≤ 269 := by
 have := norm_range (c.b + (dec vs c.y).1 + 90)
 unfold midF
 omega
theorem len_range {c : Co} (h : courseOk c = true) : 0 < nearF c ∧ nearF c ≤ farF c ∧ farF c ≤ 1070000000 := by
 obtain ⟨_, _, ⟨l0, l1⟩, _, ⟨w0, w1⟩, ⟨s0, s1⟩⟩ := (courseOk_iff c).1 h
 refine ⟨Int.mul_pos (by omega) (by omega), Int.mul_le_mul_of_nonneg_left (by omega) (by omega), ?_⟩
 have : c.l * (10000 + c.w + c.s) ≤ 100000 * 10700 := Int.mul_le_mul (by omega) (by omega) (by omega) (by omega)
 exact this
theorem turn_ok {c : Co} (h : courseOk c = true) : courseOk (turn c) = true := by
 rw [courseOk_iff] at h ⊢
 have := norm_range (c.b + 180)
 simp only [turn]
 omega
theorem turn_turn {c : Co} (h : courseOk c = true) : turn (turn c) = c := by
 obtain ⟨hb, _⟩ := (courseOk_iff c).1 h
 have : norm (norm (c.b + 180) + 180) = c.b := by unfold norm; omega
 simp only [turn, this]
theorem aimOf_ok (vs : List (Int × Int)) {c : Co} (h : courseOk c = true) : AimOk (aimOf vs c) := by
 obtain ⟨n0, nf, f1⟩ := len_range h
 obtain ⟨m0, m1⟩ := mid_range vs c
 obtain ⟨_, ⟨a0, a1⟩, _⟩ := (courseOk_iff c).1 h
 unfold aimOf
 refine ⟨?_, ?_, ?_, ?_, ?_, n0, ?_, nf, f1⟩ <;> dsimp only <;> omega
theorem aimEast_ok (vs : List (Int × Int)) {c : Co} (h : courseOk c = true) (dx : Int) : AimOk (aimEast vs c dx) := by
 unfold aimEast
 split
 ·exact aimOf_ok vs (turn_ok h)
 ·exact aimOf_ok vs h
theorem intA_range {a : Aim} (h : AimOk a) {dx : Int} (hx0 : 0 < dx) (hx1 : dx ≤ 100000) (hok : (intA a dx).2.2 = true) :
  -100000 ≤ (intA a dx).1 ∧ (intA a dx).2.1 ≤ 100000 ∧ (intA a dx).1 ≤ (intA a dx).2.1 := by
 unfold intA at hok ⊢
 split at hok
 ·cases hok
 ·rename_i hn
  rw [if_neg hn]
  simp only [decide_eq_true_eq] at hok
  have h1 : hi1 a dx ≤ 100000 := by unfold hi1; omega
  have h2 : hi2 a dx ≤ hi1 a dx := by unfold hi2; split <;> omega
  have h3 : hi3 a dx ≤ hi2 a dx := by unfold hi3; split <;> omega
  have l2 : -(hi1 a dx) ≤ lo2 a dx := by unfold lo2; split <;> omega
  have l3 : lo2 a dx ≤ lo3 a dx := by unfold lo3; split <;> omega
  dsimp only
  omega
theorem misF_iff (vs : List (Int × Int)) {c : Co} (h : courseOk c = true) {dx dy : Int} (hx : dx ≠ 0) (hx0 : -100000 ≤ dx) (hx1 : dx ≤ 100000) (hy0 : -100000 ≤ dy) (hy1 : dy ≤ 100000) :
  misF vs c dx dy = 0 ↔ (intF vs c dx).2.2 = true ∧ (intF vs c dx).1 ≤ dy ∧ dy ≤ (intF vs c dx).2.1 := by
 have ha := aimEast_ok vs h dx
 unfold misF intF
 by_cases hd : dx < 0
 ·rw [if_pos hd, if_neg (by omega), fits_iff ha (by omega) (by omega) (by omega) (by omega)]
  dsimp only
  constructor
  ·rintro ⟨p, q, r⟩; exact ⟨p, by omega, by omega⟩
  ·rintro ⟨p, q, r⟩; exact ⟨p, by omega, by omega⟩
 ·rw [if_neg hd, if_pos (by omega), fits_iff ha (by omega) (by omega) (by omega) (by omega)]
theorem intF_range (vs : List (Int × Int)) {c : Co} (h : courseOk c = true) {dx : Int} (hx : dx ≠ 0) (hx0 : -100000 ≤ dx) (hx1 : dx ≤ 100000) (hok : (intF vs c dx).2.2 = true) :
  -100000 ≤ (intF vs c dx).1 ∧ (intF vs c dx).2.1 ≤ 100000 ∧ (intF vs c dx).1 ≤ (intF vs c dx).2.1 := by
 have ha := aimEast_ok vs h dx
 unfold intF at hok ⊢
 by_cases hd : 0 < dx
 ·rw [if_pos hd] at hok ⊢
  exact intA_range ha hd hx1 hok
 ·rw [if_neg hd] at hok ⊢
  have := intA_range ha (dx := -dx) (by omega) (by omega) hok
  dsimp only
  omega
theorem comG_one (vs : List (Int × Int)) {c : Co} (h : courseOk c = true) {dx : Int} (hx : dx ≠ 0) (hx0 : -100000 ≤ dx) (hx1 : dx ≤ 100000) :
  comG vs dx (-100000, 100000) [c] = if (intF vs c dx).2.2 then ((intF vs c dx).1, (intF vs c dx).2.1, true) else (0, 0, false) := by
 rw [comG]
 rcases hb : (intF vs c dx).2.2 with _ | _
 ·simp
 ·obtain ⟨a, b, d⟩ := intF_range vs h hx hx0 hx1 hb
  rw [show max (-100000) (intF vs c dx).1 = (intF vs c dx).1 by omega, show min 100000 (intF vs c dx).2.1 = (intF vs c dx).2.1 by omega]
  simp [d, comG]
theorem comG_iff (vs : List (Int × Int)) {dx : Int} (hx : dx ≠ 0) (hx0 : -100000 ≤ dx) (hx1 : dx ≤ 100000) (cs : List Co) (h : ∀ c ∈ cs, courseOk c = true) (lo hi : Int) (hl : -100000 ≤ lo) (hh : hi ≤ 100000)
    (hlh : lo ≤ hi) {y : Int} (hy0 : -100000 ≤ y) (hy1 : y ≤ 100000) :
    ((lo ≤ y ∧ y ≤ hi) ∧ ∀ c ∈ cs, misF vs c dx y = 0) ↔ (comG vs dx (lo, hi) cs).2.2 = true ∧ (comG vs dx (lo, hi) cs).1 ≤ y ∧ y ≤ (comG vs dx (lo, hi) cs).2.1 := by
  induction cs generalizing lo hi with
  | nil => simp [comG]
  | cons c r ih =>
    have hc := misF_iff vs (h c List.mem_cons_self) (dy := y) hx hx0 hx1 hy0 hy1
    have hr := fun k => intF_range vs (h c List.mem_cons_self) hx hx0 hx1 k
    rw [comG]
    simp only [List.mem_cons, forall_eq_or_imp, hc]
    by_cases hcond : ((intF vs c dx).2.2 && decide (max lo (intF vs c dx).1 ≤ min hi (intF vs c dx).2.1)) = true
    · rw [if_pos hcond]
      simp only [Bool.and_eq_true, decide_eq_true_eq] at hcond
      rw [← ih (fun c hm => h c (List.mem_cons_of_mem _ hm)) _ _ (by omega) (by omega) hcond.2]
      constructor
      · rintro ⟨⟨a, b⟩, ⟨p, q, s⟩, t⟩; exact ⟨by omega, t⟩
      · rintro ⟨a, t⟩; exact ⟨by omega, ⟨hcond.1, by omega, by omega⟩, t⟩
    · rw [if_neg hcond]
      constructor
      · rintro ⟨⟨a, b⟩, ⟨p, q, s⟩, t⟩
        exact absurd (by simp only [Bool.and_eq_true, decide_eq_true_eq]; exact ⟨p, by omega⟩) hcond
      · rintro ⟨a, _⟩; cases a
theorem comG_range (vs : List (Int × Int)) {dx : Int} (cs : List Co) (lo hi : Int) (hl : -100000 ≤ lo) (hh : hi ≤ 100000) (hlh : lo ≤ hi) :
    -100000 ≤ (comG vs dx (lo, hi) cs).1 ∧ (comG vs dx (lo, hi) cs).2.1 ≤ 100000 ∧ (comG vs dx (lo, hi) cs).1 ≤ (comG vs dx (lo, hi) cs).2.1 ∧
      ((comG vs dx (lo, hi) cs).2.2 = false → (comG vs dx (lo, hi) cs).1 = 0 ∧ (comG vs dx (lo, hi) cs).2.1 = 0) := by
  induction cs generalizing lo hi with
  | nil => simp [comG]; omega
  | cons c r ih =>
    rw [comG]
    split
    · rename_i hc
      simp only [Bool.and_eq_true, decide_eq_true_eq] at hc
      exact ih _ _ (by omega) (by omega) hc.2
    · simp
theorem cot_step : ∀ k ∈ List.range 180, 0 < k → k + 1 < 180 → cos ((k : Int) + 1) * sin (k : Int) ≤ cos (k : Int) * sin ((k : Int) + 1) := by decide +kernel
theorem cot_mono {a : Int} (n : Nat) (h0 : 0 < a) (h1 : a + n < 180) : cos (a + n) * sin a ≤ cos a * sin (a + n) := by
  induction n with
  | zero => simp
  | succ n ih =>
    have hi := ih (by omega)
    have hs := cot_step (a + n).toNat (by simp; omega) (by omega) (by omega)
    rw [show (((a + n).toNat : Nat) : Int) = a + n by omega, show a + (n : Int) + 1 = a + ((n + 1 : Nat) : Int) by omega] at hs
    have p0 := sin_pos h0 (by omega : a < 180)
    have p1 := sin_pos (d := a + n) (by omega) (by omega)
    have p2 := sin_pos (d := a + ((n + 1 : Nat) : Int)) (by omega) h1
    generalize cos a = ca at *
    generalize sin a = sa at *
    generalize cos (a + n) = cb at *
    generalize sin (a + n) = sb at *
    generalize cos (a + ((n + 1 : Nat) : Int)) = cc at *
    generalize sin (a + ((n + 1 : Nat) : Int)) = sc at *
    -- cb * sa ≤ ca * sb, cc * sb ≤ cb * sc, so cc * sa * sb ≤ ca * sc * sb
    have e1 : cc * sb * sa ≤ cb * sc * sa := Int.mul_le_mul_of_nonneg_right hs (by omega)
    have e2 : cb * sa * sc ≤ ca * sb * sc := Int.mul_le_mul_of_nonneg_right hi (by omega)
    have e3 : cc * sa * sb ≤ ca * sc * sb := by
      rw [show cc * sa * sb = cc * sb * sa by ac_rfl, show ca * sc * sb = ca * sb * sc by ac_rfl]
      rw [show cb * sc * sa = cb * sa * sc by ac_rfl] at e1
      omega
    exact Int.le_of_mul_le_mul_right e3 p1
theorem cot_le {a b : Int} (h0 : 0 < a) (hab : a ≤ b) (h1 : b < 180) : cos b * sin a ≤ cos a * sin b := by
 have := cot_mono (a := a) (b - a).toNat h0 (by omega)
 rwa [show a + (((b - a).toNat : Nat) : Int) = b by omega] at this
theorem line_low {a b dx dy : Int} (h0 : 0 < a) (hab : a ≤ b) (h1 : b < 180) (hx : 0 ≤ dx) (h : dy * sin b ≤ dx * cos b) : dy * sin a ≤ dx * cos a := by
 have pa := sin_pos h0 (by omega : a < 180)
 have pb := sin_pos (d := b) (by omega) h1
 have hc := cot_le h0 hab h1
 generalize cos a = ca at *
 generalize sin a = sa at *
 generalize cos b = cb at *
 generalize sin b = sb at *
 have e1 : dy * sb * sa ≤ dx * cb * sa := Int.mul_le_mul_of_nonneg_right h (by omega)
 have e2 : dx * (cb * sa) ≤ dx * (ca * sb) := Int.mul_le_mul_of_nonneg_left hc hx
 have e3 : dy * sa * sb ≤ dx * ca * sb := by
  rw [show dy * sa * sb = dy * sb * sa by ac_rfl, show dx * ca * sb = dx * (ca * sb) by ac_rfl]
  rw [show dx * cb * sa = dx * (cb * sa) by ac_rfl] at e1
  omega
 exact Int.le_of_mul_le_mul_right e3 pb
theorem line_high {a b dx dy : Int} (h0 : 0 < a) (hab : a ≤ b) (h1 : b < 180) (hx : 0 ≤ dx) (h : dx * cos a ≤ dy * sin a) : dx * cos b ≤ dy * sin b := by
 have pa := sin_pos h0 (by omega : a < 180)
 have pb := sin_pos (d := b) (by omega) h1
 have hc := cot_le h0 hab h1
 generalize cos a = ca at *
 generalize sin a = sa at *
 generalize cos b = cb at *
 generalize sin b = sb at *
 have e1 : dx * ca * sb ≤ dy * sa * sb := Int.mul_le_mul_of_nonneg_right h (by omega)
 have e2 : dx * (cb * sa) ≤ dx * (ca * sb) := Int.mul_le_mul_of_nonneg_left hc hx
 have e3 : dx * cb * sa ≤ dy * sb * sa := by
  rw [show dx * cb * sa = dx * (cb * sa) by ac_rfl, show dy * sb * sa = dy * sa * sb by ac_rfl]
  rw [show dx * ca * sb = dx * (ca * sb) by ac_rfl] at e1
  omega
 exact Int.le_of_mul_le_mul_right e3 pa
structure AimIn (a b : Aim) : Prop where
 low : b.low ≤ a.low
 high : a.high ≤ b.high
 near : b.near ≤ a.near
 far : a.far ≤ b.far
theorem misA_in {a b : Aim} (ha : AimOk a) (hb : AimOk b) (h : AimIn a b) {dx dy : Int} (hx : 0 ≤ dx) (hm : misA a dx dy = 0) : misA b dx dy = 0 := by
 rw [misA_zero] at hm ⊢
 obtain ⟨c0, c1, c2, c3, c4⟩ := hm
 rw [cond0_iff] at c0 ⊢
 have hl := h.low
 have hh := h.high
 have hn := h.near
 have hf := h.far
 have hal := ha.le
 simp only [cond1, Bool.or_eq_true, decide_eq_true_eq] at c1 ⊢
 simp only [cond2, Bool.or_eq_true, decide_eq_true_eq] at c2 ⊢
 simp only [cond3, decide_eq_true_eq] at c3 ⊢
 simp only [cond4, Bool.or_eq_true, Bool.and_eq_true, decide_eq_true_eq] at c4 ⊢
 have fs : a.far * a.far ≤ b.far * b.far := Int.mul_le_mul hf hf (by have := ha.far0; omega) (by have := hb.far0; omega)
 have ns : b.near * b.near ≤ a.near * a.near := Int.mul_le_mul hn hn (by have := hb.near0; omega) (by have := ha.near0; omega)
 refine ⟨by omega, ?_, ?_, by omega, ?_⟩
 ·by_cases hb0 : b.low ≤ 0
  ·exact .inl hb0
  ·right
   rcases c1 with c1 | c1
   ·omega
   ·exact line_low (by omega) hl c0.2 hx c1
 ·by_cases hb0 : 180 ≤ b.high
  ·exact .inl hb0
  ·right
   rcases c2 with c2 | c2
   ·omega
   ·exact line_high c0.1 hh (by omega) hx c2
 ·rcases c4 with c4 | c4
  ·exact .inl (by omega)
  ·exact .inr (by omega)
theorem narF_iff (a b : Co) : narF a b = true ↔ courseOk a = true ∧ courseOk b = true ∧ (a.b = b.b ∧ a.l = b.l ∧ a.y = b.y) ∧ a.n ≤ b.n ∧ b.w - b.s ≤ a.w - a.s ∧ a.w + a.s ≤ b.w + b.s := by
 simp only [narF, Bool.and_eq_true, decide_eq_true_eq]
 constructor
 ·rintro ⟨⟨⟨⟨⟨p, q⟩, r⟩, s⟩, t⟩, u⟩; exact ⟨p, q, r, s, t, u⟩
 ·rintro ⟨p, q, r, s, t, u⟩; exact ⟨⟨⟨⟨⟨p, q⟩, r⟩, s⟩, t⟩, u⟩
theorem aimOf_in (vs : List (Int × Int)) {a b : Co} (hl0 : 0 ≤ a.l) (h : (a.b = b.b ∧ a.l = b.l ∧ a.y = b.y) ∧ a.n ≤ b.n ∧ b.w - b.s ≤ a.w - a.s ∧ a.w + a.s ≤ b.w + b.s) : AimIn (aimOf vs a) (aimOf vs b) := by
 obtain ⟨⟨e1, e2, e3⟩, hn, h1, h2⟩ := h
 have hm : midF vs a = midF vs b := by unfold midF; rw [e1, e3]
 refine ⟨?_, ?_, ?_, ?_⟩ <;> simp only [aimOf, nearF, farF, hm]
 ·omega
 ·omega
 ·rw [← e2]; exact Int.mul_le_mul_of_nonneg_left (by omega) hl0
 ·rw [← e2]; exact Int.mul_le_mul_of_nonneg_left (by omega) hl0
theorem misF_in (vs : List (Int × Int)) {a b : Co} (h : narF a b = true) {dx dy : Int} (hm : misF vs a dx dy = 0) : misF vs b dx dy = 0 := by
 obtain ⟨oa, ob, he⟩ := (narF_iff a b).1 h
 obtain ⟨_, _, ⟨l0, _⟩, _⟩ := (courseOk_iff a).1 oa
 have hin : AimIn (aimEast vs a dx) (aimEast vs b dx) := by
  unfold aimEast
  split
  ·exact aimOf_in vs (a := turn a) (b := turn b) (by simp only [turn]; omega) (by simp only [turn, he.1.1]; exact ⟨⟨trivial, he.1.2⟩, he.2⟩)
  ·exact aimOf_in vs (by omega) he
 unfold misF at hm ⊢
 split at hm
 ·rw [if_pos (by assumption)]
  exact misA_in (aimEast_ok vs oa dx) (aimEast_ok vs ob dx) hin (by omega) hm
 ·rw [if_neg (by assumption)]
  exact misA_in (aimEast_ok vs oa dx) (aimEast_ok vs ob dx) hin (by omega) hm
end Cs
end Go.Proofs.YtcbeefbefapicaaGreatDoor

namespace Go.Proofs.YtcbeefbefapicaaGreatDoor
namespace Cs
theorem comF_err1 {vs : List (Int × Int)} {c : Co} {dx : Int} (h : eastE vs [c] dx ≠ 0) : comF vs [c] dx = ((0, 0, false), eastE vs [c] dx) := by
 rw [comF, if_neg (by simp), if_neg (by simp), if_pos h]
theorem comF_zero {vs : List (Int × Int)} {c : Co} {dx : Int} (h : eastE vs [c] dx = 0) : comF vs [c] dx = (comG vs dx (-100000, 100000) [c], 0) := by
 rw [comF, if_neg (by simp), if_neg (by simp), if_neg (by rw [h]; simp)]
theorem east_ok {vs : List (Int × Int)} {c : Co} {dx : Int} (h : eastE vs [c] dx = 0) : courseOk c = true ∧ dx ≠ 0 ∧ -100000 ≤ dx ∧ dx ≤ 100000 := by
 unfold eastE at h
 split at h
 ·rename_i h1; exact absurd h h1
 ·rename_i h1
  split at h
  ·omega
  ·rename_i h2
   have h3 : checkE vs [c] = 0 := Decidable.not_not.1 h1
   refine ⟨?_, by omega, by omega, by omega⟩
   unfold checkE at h3
   split at h3
   ·rename_i h4; exact absurd h3 h4
   ·split at h3
    ·rename_i h5; simpa using h5
    ·omega
theorem fits_of {vs : List (Int × Int)} {c : Co} {dx : Int} (h : eastE vs [c] dx = 0) {y : Int} (h0 : -100000 ≤ y) (h1 : y ≤ 100000) :
  fitsF vs c dx y = ((comG vs dx (-100000, 100000) [c]).2.2 && (decide ((comG vs dx (-100000, 100000) [c]).1 ≤ y) && decide (y ≤ (comG vs dx (-100000, 100000) [c]).2.1)), 0) := by
 obtain ⟨g1, g2, g3, g4⟩ := east_ok h
 have hi := comG_iff vs g2 g3 g4 [c] (by simpa using g1) (-100000) 100000 (by decide) (by decide) (by decide) h0 h1
 have hs : stepE vs c dx y = 0 := by rw [stepE, if_neg (by rw [h]; simp), if_neg (by omega)]
 have hm : misfitF vs c dx y = (misF vs c dx y, 0) := by rw [misfitF, if_neg (by rw [hs]; simp)]
 rw [fitsF, hm]
 simp only [decide_true, Bool.true_and, Prod.mk.injEq, and_true]
 rw [Bool.eq_iff_iff]
 simp only [decide_eq_true_eq, Bool.and_eq_true]
 rw [← hi]
 simp only [List.mem_singleton, forall_eq]
 constructor
 ·intro e; exact ⟨⟨h0, h1⟩, e⟩
 ·intro e; exact e.2
end Cs
end Go.Proofs.YtcbeefbefapicaaGreatDoor

namespace Go.Proofs.YtcbeefbefapicaaGreatDoor
namespace Dd
theorem field_facts {f : Fd} (h : fieldE f = 0) : 1 ≤ f.li.length ∧ 2 ≤ f.st.length ∧ f.st.length ≤ 12 ∧ f.li.length ≤ 10 ∧ f.pa.length ≤ 40 ∧ Cs.varsE f.va = 0 ∧ namesF f = true ∧ distF f = true ∧ rangeF f = true ∧ orderF f = true := by
 unfold fieldE at h
 split at h
 ·omega
 ·split at h
  ·omega
  ·split at h
   ·rename_i h1 h2 h3; exact absurd h h3
   ·split at h
    ·omega
    ·split at h
     ·omega
     ·split at h
      ·omega
      ·split at h
       ·omega
       ·rename_i h1 h2 h3 h4 h5 h6 h7
        simp only [Bool.not_eq_false] at h4 h5 h6 h7
        exact ⟨by omega, by omega, by omega, by omega, by omega, by omega, h4, h5, h6, h7⟩
theorem callG_zero {f : Fd} {c : Ca} (h : callG f c = 0) : there f c = true ∧ ordered c = true ∧ bare c = true ∧ (c.k = 3 → (Cs.comF f.va [c.c] (run f c)).2 = 0 ∧ (Cs.comF f.va [c.c] (run f c)).1.2.2 = true) := by
 unfold callG at h
 split at h
 ·rename_i hc
  simp only [Bool.and_eq_true] at hc
  refine ⟨hc.1.1, hc.1.2, hc.2, fun hk => ?_⟩
  rw [if_neg (by simpa using hk)] at h
  split at h
  ·rename_i h2; exact absurd h h2
  ·rename_i h2
   split at h
   ·rename_i h3; exact ⟨by omega, h3⟩
   ·omega
 ·omega
theorem kind_of {c : Ca} (h : ordered c = true) : c.k = 1 ∨ c.k = 2 ∨ c.k = 3 ∨ c.k = 4 ∨ c.k = 5 := by
 unfold ordered at h
 by_cases k1 : c.k = 1
 ·exact .inl k1
 ·by_cases k2 : c.k = 2
  ·exact .inr (.inl k2)
  ·by_cases k3 : c.k = 3 ∨ c.k = 5
   ·rcases k3 with k | k
    ·exact .inr (.inr (.inl k))
    ·exact .inr (.inr (.inr (.inr k)))
   ·by_cases k4 : c.k = 4
    ·exact .inr (.inr (.inr (.inl k4)))
    ·rw [if_neg k1, if_neg k2, if_neg k3, if_neg k4] at h; cases h
def near (a b m : Int) : Bool := decide (a - b ≤ m) && decide (b - a ≤ m)
def evenA (f : Fd) (c : Ca) (y : List Int) : Nat → Int → Bool
 | 0, _ => true
 | n + 1, s => decide (at_ y (pt f c.l s) = at_ y (pt f c.o s)) && evenA f c y n (s + 1)
def rallow (f : Fd) (c : Ca) (y : List Int) : Bool :=
 if c.k = 1 then near (at_ y (pt f c.l c.a)) c.s c.e
 else if c.k = 2 then near (at_ y (pt f c.o c.a) - at_ y (pt f c.l c.a)) c.s c.e
 else if c.k = 5 then near (at_ y (pt f c.l c.b) - at_ y (pt f c.l c.a)) c.s c.e
 else if c.k = 3 then (Cs.fitsF f.va c.c (run f c) (at_ y (pt f c.l c.b) - at_ y (pt f c.l c.a))).1
 else evenA f c y (c.b - c.a + 1).toNat c.a
theorem even_eq (f : Fd) (c : Ca) (y : List Int) : ∀ (n : Nat) (s : Int), ((gapAlong f c n s).flatMap (pairB 0)).all (keepsB y) = evenA f c y n s
  | 0, _ => rfl
  | n + 1, s => by
    rw [gapAlong, List.flatMap_cons, List.all_append, even_eq f c y n (s + 1), evenA]
    congr 1
    rw [Bool.eq_iff_iff]
    simp [pairB, keepsB]
    omega
theorem at_off {f : Fd} {y : List Int} (hd : drw f y = true) {l s : Int} (hl : isIx l f.li.length = true) (hs : isIx s f.st.length = true) : 0 ≤ at_ y (pt f l s) ∧ at_ y (pt f l s) ≤ 100000 := by
 simp only [isIx, decide_eq_true_eq] at hl hs
 obtain ⟨i, rfl⟩ : ∃ i : Nat, l = i := ⟨l.toNat, by omega⟩
 obtain ⟨j, rfl⟩ : ∃ i : Nat, s = i := ⟨s.toNat, by omega⟩
 have := ((drw_iff.1 hd).2.2 i j (by omega) (by omega)).1
 have e : pt f i j = ((1 + i * f.st.length + j : Nat) : Int) := by unfold pt; simp
 rw [e]
 exact this
theorem rallow_eq {f : Fd} {c : Ca} {y : List Int} (hc : callG f c = 0) (hd : drw f y = true) : rallow f c y = (bnds f c 0).all (keepsB y) := by
 obtain ⟨ht, ho, hb, h3⟩ := callG_zero hc
 have hy0 := (drw_iff.1 hd).2.1
 unfold rallow bnds gapsF
 rcases kind_of ho with k | k | k | k | k
 ·rw [if_pos k, if_pos k, Bool.eq_iff_iff]
  simp only [near, pairB, keepsB, List.flatMap_cons, List.flatMap_nil, List.append_nil, List.all_cons, List.all_nil, Bool.and_true, Bool.and_eq_true, decide_eq_true_eq, hy0]
  omega
 ·rw [if_neg (by omega), if_pos k, if_neg (by omega), if_pos k, Bool.eq_iff_iff]
  simp only [near, pairB, keepsB, List.flatMap_cons, List.flatMap_nil, List.append_nil, List.all_cons, List.all_nil, Bool.and_true, Bool.and_eq_true, decide_eq_true_eq]
  omega
 ·obtain ⟨e1, e2⟩ := h3 k
  have he : Cs.eastE f.va [c.c] (run f c) = 0 := by
   rcases Int.decEq (Cs.eastE f.va [c.c] (run f c)) 0 with h | h
   ·rw [Cs.comF_err1 h] at e1; exact absurd e1 h
   ·exact h
  have hcz := Cs.comF_zero he
  simp only [there, Bool.and_eq_true] at ht
  have a1 := at_off hd ht.1.1.1.1.1 ht.1.1.2
  have a2 := at_off hd ht.1.1.1.1.1 ht.1.1.1.2
  have hf := Cs.fits_of he (y := at_ y (pt f c.l c.b) - at_ y (pt f c.l c.a)) (by omega) (by omega)
  rw [if_neg (by omega), if_neg (by omega), if_neg (by omega), if_pos k, if_neg (by omega), if_neg (by omega), if_pos k, hf, hcz, Bool.eq_iff_iff]
  rw [hcz] at e2
  dsimp only at e2 ⊢
  rw [e2]
  simp only [pairB, keepsB, List.flatMap_cons, List.flatMap_nil, List.append_nil, List.all_cons, List.all_nil, Bool.and_true, Bool.true_and, Bool.and_eq_true, decide_eq_true_eq]
  omega
 ·rw [if_neg (by omega), if_neg (by omega), if_neg (by omega), if_neg (by omega), if_neg (by omega), if_neg (by omega), if_neg (by omega), if_neg (by omega), even_eq]
 ·rw [if_neg (by omega), if_neg (by omega), if_pos k, if_neg (by omega), if_neg (by omega), if_neg (by omega), if_pos k, Bool.eq_iff_iff]
  simp only [near, pairB, keepsB, List.flatMap_cons, List.flatMap_nil, List.append_nil, List.all_cons, List.all_nil, Bool.and_true, Bool.and_eq_true, decide_eq_true_eq]
  omega
end Dd
end Go.Proofs.YtcbeefbefapicaaGreatDoor

namespace Go.Proofs.YtcbeefbefapicaaGreatDoor
open Go.RowKit Go.Shelf
def lastT (l : List Oper) (o : Oper) (p q : Nat) : Bool :=
 (l ++ [o]).all (fun x => x.guard.isNone) &&
 (List.range l.length).all (fun j => match l[j]? with | some x => x.after.all (fun e => decide (e.on < j)) | none => true) &&
 o.after.all (fun e => decide (e.on < l.length)) &&
 (List.range l.length).all (fun i => i == p || o.after.any (fun e => Region.binds .any e && e.on == i)) &&
 (decide (p < q) && decide (q < l.length)) &&
 (match l[q]? with | some x => x.after.any (fun e => Region.binds .any e && e.on == p) | none => false)
theorem getD_set {L : Array Bool} {i j : Nat} (hj : j < L.size) : (L.setIfInBounds i true).getD j false = if i = j then true else L.getD j false := by
 have e : ∀ (M : Array Bool) (k : Nat), M.getD k false = (M[k]?).getD false := fun M k => by simp [Array.getD_eq_getD_getElem?]
 rw [e, e, Array.getElem?_setIfInBounds]
 by_cases h : i = j
 ·subst h
  simp [hj]
 ·simp [h]
section
variable {P : Program} {Q : Exit → Act → World → Prop} {l : List Oper} {o : Oper}
theorem wpAny_lastT {p q : Nat} (hB : lastT l o p q = true) :
    ∀ (fuel : Nat) (listed : Array Bool) (a : Act) (w : World), listed.size = l.length → (listed.getD q false = true → listed.getD p false = true) → wpAny P .any l.toArray (QLast P (l ++ [o]).toArray o Q) fuel listed a w → wpAny P .any (l ++ [o]).toArray Q (fuel + 1) (listed.push false) a w := by
  simp only [lastT, Bool.and_eq_true, List.all_eq_true, List.mem_range, Bool.or_eq_true, beq_iff_eq, decide_eq_true_eq] at hB
  obtain ⟨⟨⟨⟨⟨hg, hlt⟩, ho⟩, hs⟩, hpq⟩, hqp⟩ := hB
  have hon : ∀ (j : Nat) (x : Oper), l[j]? = some x → ∀ e ∈ x.after, e.on < j := fun j x hj e he => by
    have hjl : j < l.length := (List.getElem?_eq_some_iff.1 hj).1
    have := hlt j hjl
    rw [hj] at this
    have := Array.all_eq_true_iff_forall_mem.1 this e he
    simpa using this
  have hget : ∀ (L : Array Bool), L.size = l.length → ∀ i, i < l.length → ∀ d : Bool, (L.push false).getD i d = L.getD i d := fun L hL i hi d => by
    simp [Array.getD, hL, hi, Array.getElem_push, show i < l.length + 1 by omega]
  -- who is ready
  have hrd : ∀ (L : Array Bool), L.size = l.length → ∀ i, i ∈ Region.ready .any (l ++ [o]).toArray (L.push false) → i < l.length → i ∈ Region.ready .any l.toArray L := fun L hL i hi hil => by
    obtain ⟨h1, x, hx, h2⟩ := mem_ready.1 hi
    have hx' : l[i]? = some x := by simpa [List.getElem?_append_left hil] using hx
    refine mem_ready.2 ⟨by rw [hget L hL i hil] at h1; exact h1, x, by simpa using hx', fun e he hb => ?_⟩
    have := h2 e he hb
    rw [hget L hL _ (by have := hon i x hx' e he; omega)] at this
    exact this
  have hrl : ∀ (L : Array Bool), L.size = l.length → (L.getD q false = true → L.getD p false = true) → l.length ∈ Region.ready .any (l ++ [o]).toArray (L.push false) → ∀ i, i < l.length → L.getD i false = true := fun L hL hin hr i hi => by
    obtain ⟨h1, x, hx, h2⟩ := mem_ready.1 hr
    have hx' : x = o := by simpa using hx.symm
    subst hx'
    have one : ∀ i, i < l.length → i ≠ p → L.getD i false = true := fun i hi hne => by
      have := (hs i hi).resolve_left hne
      obtain ⟨e, he, hb⟩ := Array.any_eq_true'.1 this
      simp only [Bool.and_eq_true, beq_iff_eq] at hb
      have := h2 e he hb.1
      rw [hb.2, hget L hL i hi] at this
      exact this
    by_cases e : i = p
    · subst e
      exact hin (one q hpq.2 (by omega))
    · exact one i hi e
  have hnone : ∀ (L : Array Bool), L.size = l.length → Region.ready .any (l ++ [o]).toArray (L.push false) ≠ [] := fun L hL h0 => by
    -- the least that is not listed is ready
    have key : ∀ i, i ≤ l.length → ∀ j, j < i → L.getD j false = true := by
      intro i
      induction i with
      | zero => intro _ j hj; omega
      | succ i ih =>
        intro hi j hj
        rcases Nat.lt_or_ge j i with e | e
        · exact ih (by omega) j e
        · obtain rfl : j = i := by omega
          refine Classical.byContradiction fun hne => ?_
          have hil : j < l.length := by omega
          have : j ∈ Region.ready .any (l ++ [o]).toArray (L.push false) := by
            refine mem_ready.2 ⟨?_, l[j], by simp [List.getElem?_append_left hil, hil], fun e he hb => ?_⟩
            · rw [hget L hL j hil]
              have : j < L.size := by omega
              simp [Array.getD, this] at hne ⊢
              exact hne
            · have hlt := hon j l[j] (by simp [hil]) e he
              rw [hget L hL _ (by omega)]
              exact ih (by omega) _ hlt
          rw [h0] at this
          cases this
    have hr : l.length ∈ Region.ready .any (l ++ [o]).toArray (L.push false) := by
      refine mem_ready.2 ⟨by rw [← hL]; simp [Array.getD], o, by simp, fun e he hb => ?_⟩
      have hlt : e.on < l.length := by simpa using Array.all_eq_true_iff_forall_mem.1 ho e he
      rw [hget L hL _ hlt]
      exact key l.length (Nat.le_refl _) _ hlt
    rw [h0] at hr
    cases hr
  have hdone : ∀ (L : Array Bool), L.size = l.length → (∀ i, i < l.length → L.getD i false = true) → Region.ready .any (l ++ [o]).toArray ((L.push false).setIfInBounds l.length true) = [] := fun L hL hall => by
    rw [List.eq_nil_iff_forall_not_mem]
    intro i hi
    obtain ⟨h1, x, hx, _⟩ := mem_ready.1 hi
    have hil : i < l.length + 1 := by simpa using (Array.getElem?_eq_some_iff.1 hx).1
    rcases Nat.lt_or_ge i l.length with e | e
    · have := hall i e
      have hi2 : i < L.size := by omega
      simp [Array.getD, hi2] at this
      simp [Array.getD, hL, Array.getElem_setIfInBounds, Array.getElem_push, e, hil, this, show ¬ l.length = i by omega] at h1
    · obtain rfl : i = l.length := by omega
      simp [Array.getD, hL] at h1
  have hlast : ∀ (L : Array Bool) (fuel : Nat) (a : Act) (w : World), L.size = l.length → (∀ i, i < l.length → L.getD i false = true) → wpList P (l ++ [o]).toArray Q [o] a w → wpOp P (l ++ [o]).toArray Q l.length (wpAny P .any (l ++ [o]).toArray Q fuel ((L.push false).setIfInBounds l.length true)) a w := fun L fuel a w hL hall hq => by
    have hd := hdone L hL hall
    have hfin : ∀ a w, Q .normal a w → wpAny P .any (l ++ [o]).toArray Q fuel ((L.push false).setIfInBounds l.length true) a w := fun a w h => by
      cases fuel with
      | zero => exact ⟨hd, h⟩
      | succ f => exact ⟨fun _ => h, by rw [hd]; simp⟩
    unfold wpOp
    have e2 : (l ++ [o]).toArray[l.length]? = some o := by simp
    rw [e2]
    dsimp only
    have hw := hg o (by simp)
    rw [if_pos (wanted_free hw _)]
    unfold wpList at hq
    rw [if_pos (wanted_free hw _)] at hq
    rcases hq with hq | hq
    · exact .inl (Oper.wp_mono (fun a w h => hfin a w h) hq)
    · exact .inr hq
  intro fuel
  induction fuel with
  | zero =>
    intro listed a w hL hin h
    refine ⟨fun h0 => absurd h0 (hnone listed hL), fun i hi => ?_⟩
    have hil : i < l.length + 1 := by
      obtain ⟨_, x, hx, _⟩ := mem_ready.1 hi
      simpa using (Array.getElem?_eq_some_iff.1 hx).1
    rcases Nat.lt_or_ge i l.length with e | e
    · have := hrd listed hL i hi e
      rw [h.1] at this
      cases this
    · obtain rfl : i = l.length := by omega
      exact hlast listed 0 a w hL (hrl listed hL hin hi) h.2
  | succ fuel ih =>
    intro listed a w hL hin h
    refine ⟨fun h0 => absurd h0 (hnone listed hL), fun i hi => ?_⟩
    have hil : i < l.length + 1 := by
      obtain ⟨_, x, hx, _⟩ := mem_ready.1 hi
      simpa using (Array.getElem?_eq_some_iff.1 hx).1
    rcases Nat.lt_or_ge i l.length with e | e
    · refine wpOp_last hg e (fun a w k => ?_) (h.2 i (hrd listed hL i hi e))
      have hri := hrd listed hL i hi e
      have hin2 : (listed.setIfInBounds i true).getD q false = true → (listed.setIfInBounds i true).getD p false = true := by
        have hpl : p < listed.size := by omega
        have hql : q < listed.size := by omega
        intro h1
        have hp : listed.getD p false = true → (listed.setIfInBounds i true).getD p false = true := fun h => by
          rw [getD_set hpl]
          by_cases e4 : i = p
          · rw [if_pos e4]
          · rw [if_neg e4]
            exact h
        by_cases e2 : i = q
        · subst e2
          obtain ⟨_, x, hx, h3⟩ := mem_ready.1 hri
          have hx' : l[i]? = some x := by simpa using hx
          have hqp' := hqp
          rw [hx'] at hqp'
          obtain ⟨e3, he3, hb3⟩ := Array.any_eq_true'.1 hqp'
          simp only [Bool.and_eq_true, beq_iff_eq] at hb3
          have := h3 e3 he3 hb3.1
          rw [hb3.2] at this
          exact hp this
        · refine hp (hin ?_)
          rw [getD_set hql, if_neg e2] at h1
          exact h1
      have := ih (listed.setIfInBounds i true) a w (by simpa using hL) hin2 k
      have he : (listed.setIfInBounds i true).push false = (listed.push false).setIfInBounds i true := by
        apply Array.ext_getElem?
        intro j
        simp only [Array.getElem?_push, Array.getElem?_setIfInBounds, Array.size_setIfInBounds, Array.size_push, hL]
        by_cases h1 : i = j
        · subst h1
          simp [e, show ¬ i = l.length by omega, show i < l.length + 1 by omega]
        · by_cases h2 : j = l.length
          · subst h2; simp [h1, show ¬ i = l.length by omega]
          · simp [h1, h2]
      rw [he] at this
      exact this
    · obtain rfl : i = l.length := by omega
      have hall := hrl listed hL hin hi
      refine hlast listed _ a w hL hall (h.1 ?_)
      rw [List.eq_nil_iff_forall_not_mem]
      intro j hj
      obtain ⟨h1, x, hx, _⟩ := mem_ready.1 hj
      have hjl : j < l.length := by simpa using (Array.getElem?_eq_some_iff.1 hx).1
      have := hall j hjl
      have hj2 : j < listed.size := by omega
      simp [Array.getD, hj2] at this h1
      rw [this] at h1
      cases h1
theorem wp_region_lastT {id p q : Nat} {S : World → Prop} {a : Act} {w : World} (l : List Oper) (o : Oper) (hm : P.follows .mixedOrders = true) (hB : lastT l o p q = true) (hS : S w.drew)
  (h : S w.drew → wpAnyH P .any l.toArray (QLast P (l ++ [o]).toArray o Q) S l.length (Array.replicate l.length false) a w.drew) : (Code.region id (l ++ [o]).toArray true).wp P Q a w := by
 refine wp_region_any hm ?_
 have h2 := wpAny_lastT hB l.length (Array.replicate l.length false) a w.drew (by simp) (fun h => by simp [Array.getD] at h) (wpAny_of_held _ _ _ _ (h hS))
 have e : (Array.replicate l.length false).push false = Array.replicate (l ++ [o]).toArray.size false := by simp [Array.replicate_succ]
 rw [e] at h2
 simpa using h2
theorem wp_region_lastT2 {id p q : Nat} {S : World → Prop} {a : Act} {w : World} {ops : Array Oper} {o : Oper} (n : Nat) (ho : ops[n]? = some o) (hn : ops.size = n + 1) (hm : P.follows .mixedOrders = true) (hB : lastT (ops.toList.take n) o p q = true) (hS : S w.drew)
  (h : S w.drew → wpAnyH P .any (ops.toList.take n).toArray (QLast P ops o Q) S n (Array.replicate n false) a w.drew) : (Code.region id ops true).wp P Q a w := by
 have hl : (ops.toList.take n).length = n := by simp; omega
 have e : (ops.toList.take n ++ [o]).toArray = ops := by
  apply Array.ext_getElem?
  intro i
  rcases Nat.lt_or_ge i n with h1 | h1
  ·simp [List.getElem?_append_left (show i < (ops.toList.take n).length by omega), List.getElem?_take, h1]
  ·rcases Nat.lt_or_ge n i with h2 | h2
   ·rw [Array.getElem?_eq_none (by simp; omega), Array.getElem?_eq_none (by omega)]
   ·obtain rfl : i = n := by omega
    rw [ho]
    simp [List.getElem?_append_right (show (ops.toList.take i).length ≤ i by omega), hl]
 have h2 := wp_region_lastT (Q := Q) (id := id) (S := S) (a := a) (w := w) (ops.toList.take n) o hm hB hS
 rw [hl, e] at h2
 exact h2 h
end
end Go.Proofs.YtcbeefbefapicaaGreatDoor
