/-
  What the claims of layer deed need of the texts Base, Num, Sin, Chk.
-/
import Derived.Below
import Derived.Laws.OwnMore
import Derived.WalkKit
import Derived.WalkSpells
import Derived.WalkLawsBesides
import Derived.Deep.QuietTactic
import Derived.BigQuiet
import Derived.Deep.LoopGhost
import Derived.Deep.DeepFit
import Derived.Deep.DeepMust
import Derived.Deep.RegionHeld3
import Derived.Deep.DeepCutAuto
import Derived.Laws.Rows
import Derived.Deep.AppendLies
import Derived.Sort.QuietIn
import Derived.Sort.LoopGhostIn
import Derived.Stop.RegionWithIn
import Derived.BigRegionIn
import Derived.Laws.Tables
import Derived.Deep.RegionLaw
import Derived.Deep.RegionWith
import Derived.StillTailTactics
import Derived.Lib.Hide
import Derived.RangeFuncNested
import Derived.RangeFuncBound
import Derived.RangeFuncCalls
import Derived.RangeFuncLeaves
import Derived.RangeFuncBox
import Derived.Shelf.Abstract
import Derived.Shelf.RegionOpen
import Derived.OwnWalkIn
import Derived.TacticsInMore
import Derived.LoopNIn
import Derived.LoopIn
import Derived.Maps.AppendAt
import Derived.Maps.OwnIn
import Derived.Test.YtccikcpcfdjobaaGreatDoorProg
import Derived.Test.YtccikcpcfdjobaaGreatDoorBr00
import Derived.Test.YtccikcpcfdjobaaGreatDoorBz
set_option linter.unusedVariables false
set_option linter.unusedSimpArgs false
set_option maxHeartbeats 8000000
set_option maxRecDepth 100000
namespace Go.Proofs.YtccikcpcfdjobaaGreatDoor
section
open Go.RowKit
def Rd (w : World) (B size : Nat) (A : Option Addr) (n : Nat) (xs : List Value) : Prop :=
 xs.length = n * size ∧ (0 < n → ∃ b off, A = some ⟨b, off, none⟩ ∧ b < B ∧ ∀ j, j < n * size → w.cell? ⟨b, off + j, none⟩ = xs[j]?)
section
variable {w w' : World} {B B' size n : Nat} {A : Option Addr} {xs : List Value}
theorem Rd.keep (h : Rd w B size A n xs) (hk : ∀ b off, b < B → w'.cell? ⟨b, off, none⟩ = w.cell? ⟨b, off, none⟩) : Rd w' B size A n xs := by
 refine ⟨h.1, fun hn => ?_⟩
 obtain ⟨b, off, e, hb, hc⟩ := h.2 hn
 exact ⟨b, off, e, hb, fun j hj => (hk _ _ hb).trans (hc j hj)⟩
theorem Rd.more (h : Rd w B size A n xs) (hB : B ≤ B') : Rd w B' size A n xs := by
 refine ⟨h.1, fun hn => ?_⟩
 obtain ⟨b, off, e, hb, hc⟩ := h.2 hn
 exact ⟨b, off, e, by omega, hc⟩
theorem Rd.below (h : Rd w B size A n xs) {C : Nat} (hb : Below C w w') (hC : B ≤ C) : Rd w' B size A n xs :=
 h.keep fun b off hlt => hb.cell (p := ⟨b, off, none⟩) (Nat.lt_of_lt_of_le hlt hC)
theorem Rd.nil (w : World) (B size : Nat) (A : Option Addr) : Rd w B size A 0 [] := ⟨by simp, fun h => absurd h (by omega)⟩
end
theorem ret_bool {a b : Bool} (h : a = b) : Ending.returned (.bool a) = .returned (.bool b) := by rw [h]
theorem ret_int {a b : Int} (h : a = b) : Ending.returned (.int .i64 a) = .returned (.int .i64 b) := by rw [h]
def vcell (v : Int × Int) : List Value := [.int .i64 v.1, .int .i64 v.2]
def vcells (vs : List (Int × Int)) : List Value := vs.flatMap vcell
theorem vcells_at (vs : List (Int × Int)) {k : Nat} (hk : k < vs.length) :
    (vcells vs)[k * 2]? = some (.int .i64 vs[k].1) ∧ (vcells vs)[k * 2 + 1]? = some (.int .i64 vs[k].2) := by
  induction vs generalizing k with
  | nil => simp at hk
  | cons v vs ih =>
    rw [show vcells (v :: vs) = vcell v ++ vcells vs from rfl]
    cases k with
    | zero => simp [vcell]
    | succ k =>
      have h2 : (vcell v).length = 2 := rfl
      have := ih (k := k) (by simpa using hk)
      simp only [List.getElem_cons_succ]
      rw [List.getElem?_append_right (by omega), List.getElem?_append_right (by omega), h2, show (k + 1) * 2 - 2 = k * 2 from by omega, show (k + 1) * 2 + 1 - 2 = k * 2 + 1 from by omega]
      exact this
theorem Rd.var {w : World} {B : Nat} {A : Option Addr} {vs : List (Int × Int)} (h : Rd w B 2 A vs.length (vcells vs)) {k : Nat} (hk : k < vs.length) :
  ∃ b off, A = some ⟨b, off, none⟩ ∧ b < B ∧ w.cell? ⟨b, off + k * 2, none⟩ = some (.int .i64 vs[k].1) ∧ w.cell? ⟨b, off + k * 2 + 1, none⟩ = some (.int .i64 vs[k].2) := by
 obtain ⟨b, off, e, hb, hc⟩ := h.2 (by omega)
 obtain ⟨h0, h1⟩ := vcells_at vs hk
 refine ⟨b, off, e, hb, ?_, ?_⟩
 ·rw [hc _ (by omega), h0]
 ·rw [show off + k * 2 + 1 = off + (k * 2 + 1) from by omega, hc _ (by omega), h1]
def cval (c : Cs.Co) : Value := .agg #[.int .i64 c.b, .int .i64 c.n, .int .i64 c.l, .int .i64 c.y, .int .i64 c.w, .int .i64 c.s]
def ccell (c : Cs.Co) : List Value := [.int .i64 c.b, .int .i64 c.n, .int .i64 c.l, .int .i64 c.y, .int .i64 c.w, .int .i64 c.s]
def ccells (cs : List Cs.Co) : List Value := cs.flatMap ccell
theorem ccells_at (cs : List Cs.Co) {k : Nat} (hk : k < cs.length) (j : Nat) (hj : j < 6) : (ccells cs)[k * 6 + j]? = (ccell cs[k])[j]? := by
  induction cs generalizing k with
  | nil => simp at hk
  | cons c cs ih =>
    rw [show ccells (c :: cs) = ccell c ++ ccells cs from rfl]
    have h6 : (ccell c).length = 6 := rfl
    cases k with
    | zero =>
      rw [List.getElem?_append_left (by omega)]
      simp
    | succ k =>
      have := ih (k := k) (by simpa using hk)
      rw [List.getElem?_append_right (by omega), h6, show (k + 1) * 6 + j - 6 = k * 6 + j from by omega]
      simpa using this
theorem Rd.course {w : World} {B : Nat} {A : Option Addr} {cs : List Cs.Co} (h : Rd w B 6 A cs.length (ccells cs)) {k : Nat} (hk : k < cs.length) :
  ∃ b off, A = some ⟨b, off, none⟩ ∧ b < B ∧ w.cell? ⟨b, off + k * 6, none⟩ = some (.int .i64 cs[k].b) ∧ w.cell? ⟨b, off + k * 6 + 1, none⟩ = some (.int .i64 cs[k].n) ∧
   w.cell? ⟨b, off + k * 6 + 2, none⟩ = some (.int .i64 cs[k].l) ∧ w.cell? ⟨b, off + k * 6 + 3, none⟩ = some (.int .i64 cs[k].y) ∧ w.cell? ⟨b, off + k * 6 + 4, none⟩ = some (.int .i64 cs[k].w) ∧
   w.cell? ⟨b, off + k * 6 + 5, none⟩ = some (.int .i64 cs[k].s) := by
 obtain ⟨b, off, e, hb, hc⟩ := h.2 (by omega)
 have hat := fun j hj => ccells_at cs hk j hj
 refine ⟨b, off, e, hb, ?_, ?_, ?_, ?_, ?_, ?_⟩
 ·rw [hc _ (by omega)]; exact hat 0 (by decide)
 ·rw [show off + k * 6 + 1 = off + (k * 6 + 1) from by omega, hc _ (by omega)]; exact hat 1 (by decide)
 ·rw [show off + k * 6 + 2 = off + (k * 6 + 2) from by omega, hc _ (by omega)]; exact hat 2 (by decide)
 ·rw [show off + k * 6 + 3 = off + (k * 6 + 3) from by omega, hc _ (by omega)]; exact hat 3 (by decide)
 ·rw [show off + k * 6 + 4 = off + (k * 6 + 4) from by omega, hc _ (by omega)]; exact hat 4 (by decide)
 ·rw [show off + k * 6 + 5 = off + (k * 6 + 5) from by omega, hc _ (by omega)]; exact hat 5 (by decide)
def Bk (w : World) (g : Nat) (t : TypeId) (cs : Array Value) : Prop := w.heap[g]? = some (.cells cs t (0, 0))
section
variable {w w' : World} {g : Nat} {t : TypeId} {cs : Array Value}
theorem Bk.lt (h : Bk w g t cs) : g < w.heap.size := (Array.getElem?_eq_some_iff.1 h).1
theorem Bk.cell (h : Bk w g t cs) (i : Nat) : w.cell? ⟨g, i, none⟩ = cs[i]? := by
 unfold Bk at h
 simp [World.cell?, h]
theorem Bk.frozen (h : Bk w g t cs) (i : Nat) : w.frozen? ⟨g, i, none⟩ = false := by
 unfold Bk at h
 simp [World.frozen?, h]
theorem Bk.new (w : World) (t : TypeId) (cs : Array Value) : Bk (w.alloc (.cells cs t)) w.heap.size t cs := World.alloc_heap_new w _
theorem Bk.alloc (h : Bk w g t cs) (o : Obj) : Bk (w.alloc o) g t cs := (Below.heap_alloc w o g h.lt).trans h
theorem Bk.below {C : Nat} (h : Bk w g t cs) (hb : Below C w w') (hg : g < C) : Bk w' g t cs := (hb.block g hg).trans h
theorem Bk.set (h : Bk w g t cs) (i : Nat) (u : Value) : Bk (w.setCell ⟨g, i, none⟩ u) g t (cs.setIfInBounds i u) := by
 unfold Bk at h ⊢
 simp [World.setCell, Array.getElem?_modify, h]
theorem Bk.far (h : Bk w g t cs) {p : Addr} (hp : g ≠ p.block) (u : Value) : Bk (w.setCell p u) g t cs := (Below.heap_setCell w p u g hp).trans h
end
theorem Bk.row {w : World} {g : Nat} {t : TypeId} {cs : Array Value} (h : Bk w g t cs) (cs' : Array Value) : Bk (w.setRow g cs') g t cs' := setRow_heap w g cs cs' t (0, 0) h
theorem Bk.row_far {w : World} {g k : Nat} {t : TypeId} {cs : Array Value} (h : Bk w g t cs) (hk : g ≠ k) (cs' : Array Value) : Bk (w.setRow k cs') g t cs := by
 unfold Bk at h ⊢
 simp only [World.setRow, Array.getElem?_modify]
 rw [if_neg (by omega)]
 exact h
theorem size_setRow (w : World) (g : Nat) (cs : Array Value) : (w.setRow g cs).heap.size = w.heap.size := by simp [World.setRow]
structure KeepX (M : Nat) (X : Nat → Prop) (w w' : World) : Prop where
 os : w'.os = w.os
 tape : w'.tape = w.tape
 output : w'.output = w.output
 size : w.heap.size ≤ w'.heap.size
 block : ∀ k, k < M → ¬ X k → w'.heap[k]? = w.heap[k]?
section
variable {M : Nat} {X : Nat → Prop} {a w w' : World}
theorem KeepX.refl (M : Nat) (X : Nat → Prop) (w : World) : KeepX M X w w := ⟨rfl, rfl, rfl, Nat.le_refl _, fun _ _ _ => rfl⟩
theorem KeepX.trans {c : World} (h : KeepX M X a w) (k : KeepX M X w c) : KeepX M X a c :=
 ⟨k.os.trans h.os, k.tape.trans h.tape, k.output.trans h.output, Nat.le_trans h.size k.size, fun i hi hx => (k.block i hi hx).trans (h.block i hi hx)⟩
theorem KeepX.mono {M' : Nat} {X' : Nat → Prop} (h : KeepX M X w w') (hM : M' ≤ M) (hX : ∀ k, k < M' → X k → X' k) : KeepX M' X' w w' :=
 ⟨h.os, h.tape, h.output, h.size, fun k hk hx => h.block k (Nat.lt_of_lt_of_le hk hM) (fun e => hx (hX k hk e))⟩
theorem KeepX.of_below (h : Below M w w') (X : Nat → Prop) : KeepX M X w w' := ⟨h.os, h.tape, h.output, h.size, fun k hk _ => h.block k hk⟩
theorem KeepX.below (h : KeepX M X w w') {B : Nat} (hB : B ≤ M) (hX : ∀ k, k < B → ¬ X k) : Below B w w' :=
 ⟨h.os, h.tape, h.output, h.size, fun k hk => h.block k (Nat.lt_of_lt_of_le hk hB) (hX k hk)⟩
theorem KeepX.of_grown {row : Option Nat} (h : w.grownBy w' row) (hM : M ≤ w.heap.size) (hr : ∀ k, row = some k → k < M → X k) : KeepX M X w w' :=
 ⟨h.os, h.tape, h.output, h.size, fun k hk hx => h.block k (by omega) (fun e => hx (hr k e.symm hk))⟩
theorem KeepX.drew (h : KeepX M X a w) : KeepX M X a w.drew := ⟨h.os, h.tape, h.output, h.size, h.block⟩
theorem KeepX.setCell (h : KeepX M X a w) {p : Addr} (hp : p.block < M → X p.block) (u : Value) : KeepX M X a (w.setCell p u) :=
 h.trans ⟨rfl, rfl, rfl, by simp [World.setCell], fun k hk hx => Below.heap_setCell _ _ _ _ (fun e => hx (by rw [e]; exact hp (by omega)))⟩
theorem KeepX.setRow (h : KeepX M X a w) {g : Nat} (hp : g < M → X g) (cs : Array Value) : KeepX M X a (w.setRow g cs) := by
 refine h.trans ⟨rfl, rfl, rfl, by simp [World.setRow], fun k hk hx => ?_⟩
 simp only [World.setRow, Array.getElem?_modify]
 rw [if_neg (fun e => hx (by rw [← e]; exact hp (by omega)))]
theorem KeepX.bk (h : KeepX M X w w') {g : Nat} {t : TypeId} {cs : Array Value} (hb : Bk w g t cs) (hg : g < M) (hx : ¬ X g) : Bk w' g t cs := (h.block g hg hx).trans hb
end
end

section
open Go.RowKit
namespace Cs
theorem norm_code2 (d : Int) : (d.tmod 360 + 360) % 360 = norm d := by
 obtain ⟨a, b, q, c⟩ := tm360 d
 rw [c, norm]
 omega
theorem tdiv_range (a b : Int) (ha : -9223372036854775807 ≤ a) (ha' : a ≤ 9223372036854775807) (hb : 0 < b) : -9223372036854775807 ≤ a.tdiv b ∧ a.tdiv b ≤ 9223372036854775807 := by
 have h := Int.natAbs_tdiv a b
 have h2 : a.natAbs / b.natAbs ≤ a.natAbs := Nat.div_le_self _ _
 have h3 : (a.tdiv b).natAbs ≤ a.natAbs := by rw [h]; exact h2
 omega
theorem flo_range (a b : Int) (ha : -9223372036854775807 ≤ a) (ha' : a ≤ 9223372036854775807) (hb : 0 < b) : -9223372036854775807 ≤ flo a b ∧ flo a b ≤ 9223372036854775807 := by
 unfold flo
 constructor
 ·rw [Int.le_ediv_iff_mul_le hb]
  have : -9223372036854775807 * b ≤ -9223372036854775807 * 1 := Int.mul_le_mul_of_nonpos_left (by decide) (by omega)
  omega
 ·have h : a / b < 9223372036854775808 := by
   rw [Int.ediv_lt_iff_lt_mul hb]
   have : (9223372036854775808 : Int) * 1 ≤ 9223372036854775808 * b := Int.mul_le_mul_of_nonneg_left (by omega) (by decide)
   omega
  omega
theorem tdiv_back (a b : Int) (hb : 0 < b) : ((0 ≤ a → 0 ≤ a.tdiv b * b ∧ a.tdiv b * b ≤ a) ∧ (a < 0 → a ≤ a.tdiv b * b ∧ a.tdiv b * b ≤ 0)) ∧ (a < a.tdiv b * b ↔ a.tmod b < 0) := by
 have h1 := Int.tmod_add_mul_tdiv a b
 rw [Int.mul_comm] at h1
 refine ⟨⟨fun h => ?_, fun h => ?_⟩, by omega⟩
 ·have := Int.tmod_nonneg b h
  have := Int.mul_nonneg (Int.tdiv_nonneg h (by omega : 0 ≤ b)) (by omega : 0 ≤ b)
  omega
 ·have h2 := Int.tmod_nonneg b (show 0 ≤ -a by omega)
  rw [Int.neg_tmod] at h2
  have h3 := Int.mul_nonneg (Int.tdiv_nonneg (show 0 ≤ -a by omega) (by omega : 0 ≤ b)) (by omega : 0 ≤ b)
  rw [Int.neg_tdiv, Int.neg_mul] at h3
  omega
def hb : Nat → Int
 | 0 => 0
 | k + 1 => 2 ^ k
theorem hb_pos (k : Nat) : 0 < hb (k + 1) := Int.pow_pos (by decide)
theorem hb_top {k : Nat} (h : k ≤ 32) : 0 ≤ hb k ∧ hb k ≤ 2147483648 := by
 have : ∀ k ∈ List.range 33, 0 ≤ hb k ∧ hb k ≤ 2147483648 := by decide
 exact this k (List.mem_range.2 (by omega))
theorem hb_half (k : Nat) : hb (k + 1) / 2 = hb k := by
  cases k with
  | zero => rfl
  | succ k =>
    show (2 : Int) ^ (k + 1) / 2 = 2 ^ k
    rw [Int.pow_succ, Int.mul_ediv_cancel _ (by decide)]
theorem hb_dbl (k : Nat) : k = 0 ∨ hb (k + 1) = 2 * hb k := by
 cases k with
 | zero => exact .inl rfl
 | succ k => exact .inr (by show (2 : Int) ^ (k + 1) = 2 * 2 ^ k; rw [Int.pow_succ]; omega)
theorem tdiv_abs (a b : Int) (ha : -9223372036854775808 ≤ a) (ha' : a ≤ 9223372036854775807) (hb : 0 < b) : -9223372036854775808 ≤ a.tdiv b ∧ a.tdiv b ≤ 9223372036854775807 := by
 have h := Int.natAbs_tdiv a b
 have h2 : a.natAbs / b.natAbs ≤ a.natAbs := Nat.div_le_self _ _
 have h3 : (a.tdiv b).natAbs ≤ a.natAbs := by rw [h]; exact h2
 by_cases h4 : 0 ≤ a
 ·have := Int.tdiv_nonneg h4 (by omega : 0 ≤ b)
  omega
 ·have := Int.tdiv_nonneg (show 0 ≤ -a by omega) (by omega : 0 ≤ b)
  rw [Int.neg_tdiv] at this
  omega
theorem root_step {n r : Int} {k : Nat} (hr : 0 ≤ r) : (r + hb (k + 1) ≤ n.tdiv (r + hb (k + 1))) ↔ (r + 2 ^ k) * (r + 2 ^ k) ≤ n := by
 have hp := hb_pos k
 have e : hb (k + 1) = 2 ^ k := rfl
 rw [e] at hp ⊢
 obtain ⟨t, ht⟩ : ∃ t, r + 2 ^ k = t := ⟨_, rfl⟩
 rw [ht]
 have ht0 : 0 < t := by omega
 rcases Int.lt_or_le n 0 with h | h
 ·have h1 : n.tdiv t ≤ 0 := by
   have h2 : (-n).tdiv t ≥ 0 := Int.tdiv_nonneg (by omega) (by omega)
   rw [Int.neg_tdiv] at h2
   omega
  have h2 : 0 < t * t := Int.mul_pos ht0 ht0
  constructor <;> intro <;> omega
 ·rw [Int.tdiv_eq_ediv_of_nonneg h, Int.le_ediv_iff_mul_le ht0]
theorem rootF_neg {n : Int} (h : n < 0) (k : Nat) (r : Int) : rootF n k r = r := by
  induction k generalizing r with
  | zero => rfl
  | succ k ih =>
    rw [rootF, if_neg, ih]
    have : 0 ≤ (r + 2 ^ k) * (r + 2 ^ k) := by
      rcases Int.le_total 0 (r + 2 ^ k) with h | h
      · exact Int.mul_nonneg h h
      · rw [← Int.neg_mul_neg]
        exact Int.mul_nonneg (by omega) (by omega)
    omega
theorem root_code (n : Int) : rootF n 32 0 = root n := by
 unfold root
 split
 ·rename_i h; exact rootF_neg h _ _
 ·rfl
end Cs
theorem between_any (a b c : Int) (w : World) :
  Calls Tryz.prog 127 #[.int .i64 a, .int .i64 b, .int .i64 c] w fun e w' => e = .returned (.bool (decide (a ≤ b ∧ b ≤ c))) ∧ w = w' := by
 by_cases h : a ≤ b
 ·go_enter Tryz.func127, Tryz.ntmps127
  go_wp2
  go_ret
  exact ⟨ret_bool (by simp [h]), rfl⟩
 ·go_enter Tryz.func127, Tryz.ntmps127
  go_wp2
  go_ret
  exact ⟨ret_bool (by simp; omega), rfl⟩
theorem norm_any (d : Int) (w : World) :
  Calls Tryz.prog 119 #[.int .i64 d] w fun e w' => e = .returned (.int .i64 (Cs.norm d)) ∧ w = w' := by
 obtain ⟨h1, h2, q, h3⟩ := Cs.tm360 d
 have hc := jQ (Cs.norm_code2 d)
 clear h3
 go_enter Tryz.func119, Tryz.ntmps119
 go_wp2
 go_ret
 exact ⟨ret_int hc.o, rfl⟩
theorem floor_any (a b : Int) (ha : -9223372036854775807 ≤ a) (ha' : a ≤ 9223372036854775807) (hb : 0 < b) (w : World) :
  Calls Tryz.prog 289 #[.int .i64 a, .int .i64 b] w fun e w' => e = .returned (.int .i64 (Cs.flo a b)) ∧ w = w' := by
 have hq := Cs.tdiv_flo a b hb
 have hr := Cs.tdiv_range a b ha ha' hb
 have hb0 : ¬ b = 0 := by omega
 have HQ := jQ hq
 obtain ⟨r1, r2⟩ := hr
 clear hq
 by_cases h : a.tmod b < 0
 ·go_enter Tryz.func289, Tryz.ntmps289
  go_wp2
  go_ret
  have := HQ.o
  rw [if_pos h] at this
  exact ⟨ret_int (by omega), rfl⟩
 ·go_enter Tryz.func289, Tryz.ntmps289
  go_wp2
  go_ret
  have := HQ.o
  rw [if_neg (by omega)] at this
  exact ⟨ret_int (by omega), rfl⟩
theorem ceil_any (a b : Int) (ha : -9223372036854775807 ≤ a) (ha' : a ≤ 9223372036854775807) (hb : 0 < b) (w : World) :
  Calls Tryz.prog 292 #[.int .i64 a, .int .i64 b] w fun e w' => e = .returned (.int .i64 (Cs.cei a b)) ∧ w = w' := by
 have hr := Cs.flo_range (-a) b (by omega) (by omega) hb
 obtain ⟨r1, r2⟩ := hr
 have hc : Cs.cei a b = -(Cs.flo (-a) b) := rfl
 obtain ⟨q, hq⟩ : ∃ q, Cs.flo (-a) b = q := ⟨_, rfl⟩
 have hfa := fun w => floor_any (-a) b (by omega) (by omega) hb w
 rw [hq] at hc r1 r2
 simp only [hq] at hfa
 rw [hc]
 have HFA := jQ hfa
 clear hfa hc hq
 go_enter Tryz.func292, Tryz.ntmps292
 go_wp2_with (go_at_call 289; refine (HFA.o _).mono ?_; rintro e w' ⟨rfl, rfl⟩)
 go_ret
 exact ⟨rfl, rfl⟩
theorem root_any (n : Int) (hn : -9223372036854775808 ≤ n) (hn' : n ≤ 9223372036854775807) (w : World) :
  Calls Tryz.prog 288 #[.int .i64 n] w fun e w' => e = .returned (.int .i64 (Cs.root n)) ∧ w = w' := by
 have HC := jQ (Cs.root_code n)
 go_enter Tryz.func288, Tryz.ntmps288
 go_wp2
 go_loop [3, 4] (fun r b => ∃ (k : Nat) (x : Int), k ≤ 32 ∧ b = .int .i64 (Cs.hb k) ∧ r = .int .i64 x ∧ 0 ≤ x ∧ x ≤ 4294967296 - Cs.hb k * 2 ∧ Cs.rootF n k x = Cs.rootF n 32 0) (fun _ b => (intOf b).toNat)
 case atStart => exact ⟨32, 0, by omega, rfl, rfl, by omega, by decide, rfl⟩
 case round =>
  obtain ⟨k, x, hk, rfl, rfl, hx0, hx1, hF⟩ := hrel
  rcases k with _ | k
  ·have hF2 : x = Cs.root n := by rw [← HC.o, ← hF]; rfl
   have HF := jQ hF2
   have h0 : Cs.hb 0 = 0 := rfl
   clear hF hF2
   go_wp2
   go_ret
   exact ⟨ret_int HF.o, rfl⟩
  ·have hp := Cs.hb_pos k
   have ht := (Cs.hb_top hk).2
   have hs := Cs.root_step (n := n) (k := k) hx0
   have hh := Cs.hb_half k
   have hd := Cs.hb_dbl k
   rw [Cs.rootF] at hF
   obtain ⟨B, hB⟩ : ∃ B, Cs.hb (k + 1) = B := ⟨_, rfl⟩
   rw [hB] at hp ht hs hh hd hx1 ⊢
   have e2 : (2 : Int) ^ k = B := hB
   rw [e2] at hs hF
   have HB := jQ hB
   have hq0 : ¬ (x + B = 0) := by omega
   have hr := Cs.tdiv_abs n (x + B) hn hn' (by omega)
   by_cases hc : x + B ≤ n.tdiv (x + B)
   ·rw [if_pos (hs.1 hc)] at hF
    have HF := jQ hF
    have HH := jQ hh
    have HD := jQ hd
    clear hF hs hh e2 hB hd
    go_wp2
    refine ⟨⟨k, _, by omega, by rw [HH.o], rfl, by omega, ?_, HF.o⟩, by simp [intOf]; omega⟩
    rcases HD.o with rfl | e
    ·have : Cs.hb 0 = 0 := rfl
     omega
    ·omega
   ·rw [if_neg (fun e => hc (hs.2 e))] at hF
    have HF := jQ hF
    have HH := jQ hh
    have HD := jQ hd
    clear hF hs hh e2 hB hd
    go_wp2
    refine ⟨⟨k, _, by omega, by rw [HH.o], rfl, by omega, ?_, HF.o⟩, by simp [intOf]; omega⟩
    rcases HD.o with rfl | e
    ·have : Cs.hb 0 = 0 := rfl
     omega
    ·omega
end

section
open Go.RowKit
def Sn (w : World) : Prop := 8 < w.heap.size ∧ ∀ k : Nat, k < 91 → w.cell? ⟨8, k, none⟩ = some (.int .i64 (Cs.tb k))
theorem Sn.below {w w' : World} {C : Nat} (h : Sn w) (hb : Below C w w') (hC : 8 < C) : Sn w' :=
 ⟨Nat.lt_of_lt_of_le h.1 hb.size, fun k hk => (hb.cell (p := ⟨8, k, none⟩) hC).trans (h.2 k hk)⟩
theorem Sn.step {w w' : World} (h : Sn w) (hb : Below w.heap.size w w') : Sn w' := h.below hb h.1
theorem rootUp_any (n : Int) (hn : -9223372036854775808 ≤ n) (hn' : n ≤ 9223372036854775807) (w : World) :
  Calls Tryz.prog 293 #[.int .i64 n] w fun e w' => e = .returned (.int .i64 (Cs.rootUp n)) ∧ w = w' := by
 obtain ⟨r0, r1⟩ := Cs.root_le hn'
 have hR := fun w => root_any n hn hn' w
 have hu : Cs.rootUp n = if Cs.root n * Cs.root n < n then Cs.root n + 1 else Cs.root n := rfl
 obtain ⟨r, hr⟩ : ∃ r, Cs.root n = r := ⟨_, rfl⟩
 simp only [hr] at hR hu r0 r1
 have HR := jQ hR
 have hm1 : r * r ≤ 9223372036854775807 := by
  have : r * r ≤ 3037000499 * 3037000499 := Int.mul_le_mul r1 r1 r0 (by decide)
  omega
 have hm0 : 0 ≤ r * r := Int.mul_nonneg r0 r0
 clear hR hr
 by_cases h : r * r < n
 ·rw [if_pos h] at hu
  rw [hu]
  clear hu
  go_enter Tryz.func293, Tryz.ntmps293
  go_wp2_with (go_at_call 288; refine (HR.o _).mono ?_; rintro e w' ⟨rfl, rfl⟩)
  go_ret
  exact ⟨rfl, rfl⟩
 ·rw [if_neg h] at hu
  rw [hu]
  clear hu
  go_enter Tryz.func293, Tryz.ntmps293
  go_wp2_with (go_at_call 288; refine (HR.o _).mono ?_; rintro e w' ⟨rfl, rfl⟩)
  go_ret
  exact ⟨rfl, rfl⟩
theorem sin_any (d : Int) (w : World) (hs : Sn w) :
  Calls Tryz.prog 291 #[.int .i64 d] w fun e w' => e = .returned (.int .i64 (Cs.sin d)) ∧ w = w' := by
 have hN := fun w => norm_any d w
 obtain ⟨n0, n1⟩ := Cs.norm_range d
 have hu : Cs.sin d = Cs.sinI (Cs.norm d) := rfl
 obtain ⟨n, hn⟩ : ∃ n, Cs.norm d = n := ⟨_, rfl⟩
 simp only [hn] at hN hu n0 n1
 obtain ⟨m, rfl⟩ : ∃ m : Nat, n = m := ⟨n.toNat, by omega⟩
 rw [hu]
 rw [Cs.sinI]
 have HN := jQ hN
 clear hN hn hu n0
 have hl := hs.1
 by_cases h1 : 180 < m
 ·rw [if_pos (by omega)]
  by_cases h2 : 90 < m - 180
  ·rw [if_pos (by omega)]
   have e := hs.2 (360 - m) (by omega)
   have hb := Cs.tb_range ((360 : Int) - (m : Int))
   rw [show ((360 - m : Nat) : Int) = 360 - (m : Int) by omega] at e
   obtain ⟨x, hx⟩ : ∃ x, Cs.tb ((360 : Int) - (m : Int)) = x := ⟨_, rfl⟩
   rw [hx] at e hb ⊢
   obtain ⟨hb0, hb1⟩ := hb
   have i1 : (180 : Int) < (m : Int) := by omega
   have i2 : (90 : Int) < (m : Int) - 180 := by omega
   have i3 : ((180 : Int) - ((m : Int) - 180)).toNat = 360 - m := by omega
   clear hx hs
   go_enter Tryz.func291, Tryz.ntmps291
   go_wp2_with (go_at_call 119; refine (HN.o _).mono ?_; rintro e w' ⟨rfl, rfl⟩)
   go_ret
   exact ⟨rfl, rfl⟩
  ·rw [if_neg (by omega)]
   have e := hs.2 (m - 180) (by omega)
   have hb := Cs.tb_range ((m : Int) - 180)
   rw [show ((m - 180 : Nat) : Int) = (m : Int) - 180 by omega] at e
   obtain ⟨x, hx⟩ : ∃ x, Cs.tb ((m : Int) - 180) = x := ⟨_, rfl⟩
   rw [hx] at e hb ⊢
   obtain ⟨hb0, hb1⟩ := hb
   have i1 : (180 : Int) < (m : Int) := by omega
   have i2 : (m : Int) - 180 ≤ 90 := by omega
   have i3 : ((m : Int) - 180).toNat = m - 180 := by omega
   clear hx hs
   go_enter Tryz.func291, Tryz.ntmps291
   go_wp2_with (go_at_call 119; refine (HN.o _).mono ?_; rintro e w' ⟨rfl, rfl⟩)
   go_ret
   exact ⟨rfl, rfl⟩
 ·rw [if_neg (by omega)]
  by_cases h2 : 90 < m
  ·rw [if_pos (by omega)]
   have e := hs.2 (180 - m) (by omega)
   have hb := Cs.tb_range ((180 : Int) - (m : Int))
   rw [show ((180 - m : Nat) : Int) = 180 - (m : Int) by omega] at e
   obtain ⟨x, hx⟩ : ∃ x, Cs.tb ((180 : Int) - (m : Int)) = x := ⟨_, rfl⟩
   rw [hx] at e hb ⊢
   obtain ⟨hb0, hb1⟩ := hb
   have i1 : (m : Int) ≤ 180 := by omega
   have i2 : (90 : Int) < (m : Int) := by omega
   have i3 : ((180 : Int) - (m : Int)).toNat = 180 - m := by omega
   clear hx hs
   go_enter Tryz.func291, Tryz.ntmps291
   go_wp2_with (go_at_call 119; refine (HN.o _).mono ?_; rintro e w' ⟨rfl, rfl⟩)
   go_ret
   exact ⟨rfl, rfl⟩
  ·rw [if_neg (by omega)]
   have e := hs.2 (m) (by omega)
   have hb := Cs.tb_range ((m : Int))
   obtain ⟨x, hx⟩ : ∃ x, Cs.tb ((m : Int)) = x := ⟨_, rfl⟩
   rw [hx] at e hb ⊢
   obtain ⟨hb0, hb1⟩ := hb
   have i1 : (m : Int) ≤ 180 := by omega
   have i2 : (m : Int) ≤ 90 := by omega
   clear hx hs
   go_enter Tryz.func291, Tryz.ntmps291
   go_wp2_with (go_at_call 119; refine (HN.o _).mono ?_; rintro e w' ⟨rfl, rfl⟩)
   go_ret
   exact ⟨rfl, rfl⟩
theorem cos_any (d : Int) (w : World) (hs : Sn w) :
  Calls Tryz.prog 290 #[.int .i64 d] w fun e w' => e = .returned (.int .i64 (Cs.cos d)) ∧ w = w' := by
 have hN := fun w => norm_any d w
 obtain ⟨n0, n1⟩ := Cs.norm_range d
 have hu : Cs.cos d = Cs.sin (Cs.norm d + 90) := rfl
 rw [hu]
 obtain ⟨n, hn⟩ : ∃ n, Cs.norm d = n := ⟨_, rfl⟩
 simp only [hn] at hN n0 n1 ⊢
 have HN := jQ hN
 have HS := jQ hs
 clear hN hn hu hs
 go_enter Tryz.func290, Tryz.ntmps290
 go_wp2_with (first
  | (go_at_call 119; refine (HN.o _).mono ?_; rintro e w' ⟨rfl, rfl⟩)
  | (go_at_call 291; refine (sin_any (n + 90) _ HS.o).mono ?_; rintro e w' ⟨rfl, rfl⟩))
 go_ret
 exact ⟨rfl, rfl⟩
end

section
open Go.RowKit
namespace Cs
theorem chainE_ok {w s : Int} (h1 : -500 ≤ w) (h2 : w ≤ 500) (h3 : 0 ≤ s) (h4 : s ≤ 200) : chainE w s = 0 := by
 unfold chainE chainOk
 rw [if_pos (by simp; omega)]
theorem chainE_no {w s : Int} (h : ¬ (-500 ≤ w ∧ w ≤ 500 ∧ 0 ≤ s ∧ s ≤ 200)) : chainE w s = 1 := by
 unfold chainE chainOk
 rw [if_neg (by simpa using h)]
abbrev okC (c : Co) : Prop := (0 ≤ c.b ∧ c.b ≤ 359) ∧ (0 ≤ c.n ∧ c.n ≤ 30) ∧ (1 ≤ c.l ∧ c.l ≤ 100000) ∧ 1 ≤ c.y ∧ c.y ≤ 3000
theorem courseE_ok {c : Co} (h : okC c) : courseE c = chainE c.w c.s := by
 unfold courseE courseOk chainE
 rw [decide_eq_true h]
 simp
theorem courseE_no {c : Co} (h : ¬ okC c) : courseE c = 1 := by
 unfold courseE courseOk
 rw [decide_eq_false h]
 simp
end Cs
theorem checkChain_any (a s : Int) (w : World) :
  Calls Tryz.prog 181 #[.agg #[.int .i64 a, .int .i64 s]] w fun e w' => e = .returned (.int .i64 (Cs.chainE a s)) ∧ Below w.heap.size w w' := by
 have HB := jQ ((Below.refl w.heap.size w).alloc (Nat.le_refl _) (.cells #[.int .i64 a, .int .i64 s] 44))
 by_cases h : -500 ≤ a ∧ a ≤ 500
 ·by_cases h2 : 0 ≤ s ∧ s ≤ 200
  ·rw [Cs.chainE_ok h.1 h.2 h2.1 h2.2]
   have d1 : decide (-500 ≤ a ∧ a ≤ 500) = true := decide_eq_true h
   have d2 : decide (0 ≤ s ∧ s ≤ 200) = true := decide_eq_true h2
   clear h h2
   go_enter Tryz.func181, Tryz.ntmps181
   go_wp2_with (go_at_call 127; refine (between_any _ _ _ _).mono ?_; (first | rw [d1] | rw [d2]); rintro e w' ⟨rfl, rfl⟩)
   go_ret
   exact ⟨rfl, HB.o⟩
  ·rw [Cs.chainE_no (by omega)]
   have d1 : decide (-500 ≤ a ∧ a ≤ 500) = true := decide_eq_true h
   have d2 : decide (0 ≤ s ∧ s ≤ 200) = false := decide_eq_false h2
   clear h h2
   go_enter Tryz.func181, Tryz.ntmps181
   go_wp2_with (go_at_call 127; refine (between_any _ _ _ _).mono ?_; (first | rw [d1] | rw [d2]); rintro e w' ⟨rfl, rfl⟩)
   go_ret
   exact ⟨rfl, HB.o⟩
 ·rw [Cs.chainE_no (by omega)]
  have d1 : decide (-500 ≤ a ∧ a ≤ 500) = false := decide_eq_false h
  clear h
  go_enter Tryz.func181, Tryz.ntmps181
  go_wp2_with (go_at_call 127; refine (between_any _ _ _ _).mono ?_; rw [d1]; rintro e w' ⟨rfl, rfl⟩)
  go_ret
  exact ⟨rfl, HB.o⟩
theorem checkCourse_any (c : Cs.Co) (w : World) :
  Calls Tryz.prog 118 #[cval c] w fun e w' => e = .returned (.int .i64 (Cs.courseE c)) ∧ Below w.heap.size w w' := by
 obtain ⟨b, n, l, y, a, s⟩ := c
 have hB0 := (Below.refl w.heap.size w).alloc (Nat.le_refl _) (.cells #[.int .i64 b, .int .i64 n, .int .i64 l, .int .i64 y, .int .i64 a, .int .i64 s] 46)
 have HB := jQ hB0
 clear hB0
 show Calls Tryz.prog 118 #[.agg #[.int .i64 b, .int .i64 n, .int .i64 l, .int .i64 y, .int .i64 a, .int .i64 s]] w _
 obtain ⟨x, hx⟩ : ∃ x, Cs.courseE ⟨b, n, l, y, a, s⟩ = x := ⟨_, rfl⟩
 rw [hx]
 by_cases h : Cs.okC ⟨b, n, l, y, a, s⟩
 ·rw [Cs.courseE_ok h] at hx
  obtain ⟨g1, g2, g3, g4⟩ := h
  dsimp only at hx g1 g2 g3 g4
  have d1 : decide (0 ≤ b ∧ b ≤ 359) = true := decide_eq_true g1
  have d2 : decide (0 ≤ n ∧ n ≤ 30) = true := decide_eq_true g2
  have d3 : decide (1 ≤ l ∧ l ≤ 100000) = true := decide_eq_true g3
  have d4 : decide (1 ≤ y ∧ y ≤ 3000) = true := decide_eq_true g4
  have hch := fun w => checkChain_any a s w
  rw [hx] at hch
  have HC := jQ hch
  clear g1 g2 g3 g4 hx hch
  go_enter Tryz.func118, Tryz.ntmps118
  go_wp2_with (first
   | (go_at_call 127; refine (between_any _ _ _ _).mono ?_; (first | rw [d1] | rw [d2] | rw [d3] | rw [d4]); rintro e w' ⟨rfl, rfl⟩)
   | (go_at_call 181; refine (HC.o _).mono ?_; rintro e w1 ⟨rfl, hb⟩))
  go_ret
  exact ⟨rfl, HB.o.trans (hb.mono HB.o.size)⟩
 ·rw [Cs.courseE_no h] at hx
  subst hx
  unfold Cs.okC at h
  dsimp only at h
  by_cases g1 : 0 ≤ b ∧ b ≤ 359
  ·have d1 : decide (0 ≤ b ∧ b ≤ 359) = true := decide_eq_true g1
   by_cases g2 : 0 ≤ n ∧ n ≤ 30
   ·have d2 : decide (0 ≤ n ∧ n ≤ 30) = true := decide_eq_true g2
    by_cases g3 : 1 ≤ l ∧ l ≤ 100000
    ·have d3 : decide (1 ≤ l ∧ l ≤ 100000) = true := decide_eq_true g3
     have d4 : decide (1 ≤ y ∧ y ≤ 3000) = false := decide_eq_false (fun g4 => h ⟨g1, g2, g3, g4⟩)
     clear g1 g2 g3 h
     go_enter Tryz.func118, Tryz.ntmps118
     go_wp2_with (go_at_call 127; refine (between_any _ _ _ _).mono ?_; (first | rw [d1] | rw [d2] | rw [d3] | rw [d4]); rintro e w' ⟨rfl, rfl⟩)
     go_ret
     exact ⟨rfl, HB.o⟩
    ·have d3 : decide (1 ≤ l ∧ l ≤ 100000) = false := decide_eq_false g3
     clear g1 g2 g3 h
     go_enter Tryz.func118, Tryz.ntmps118
     go_wp2_with (go_at_call 127; refine (between_any _ _ _ _).mono ?_; (first | rw [d1] | rw [d2] | rw [d3]); rintro e w' ⟨rfl, rfl⟩)
     go_ret
     exact ⟨rfl, HB.o⟩
   ·have d2 : decide (0 ≤ n ∧ n ≤ 30) = false := decide_eq_false g2
    clear g1 g2 h
    go_enter Tryz.func118, Tryz.ntmps118
    go_wp2_with (go_at_call 127; refine (between_any _ _ _ _).mono ?_; (first | rw [d1] | rw [d2]); rintro e w' ⟨rfl, rfl⟩)
    go_ret
    exact ⟨rfl, HB.o⟩
  ·have d1 : decide (0 ≤ b ∧ b ≤ 359) = false := decide_eq_false g1
   clear g1 h
   go_enter Tryz.func118, Tryz.ntmps118
   go_wp2_with (go_at_call 127; refine (between_any _ _ _ _).mono ?_; rw [d1]; rintro e w' ⟨rfl, rfl⟩)
   go_ret
   exact ⟨rfl, HB.o⟩
end
end Go.Proofs.YtccikcpcfdjobaaGreatDoor
