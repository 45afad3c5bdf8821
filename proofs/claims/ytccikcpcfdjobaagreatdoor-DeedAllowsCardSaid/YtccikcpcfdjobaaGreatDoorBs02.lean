/-
  What the claim needs: contracts.
-/
import Derived.Below
import Derived.Laws.OwnMore
import Derived.WalkKit
import Derived.WalkSpells
import Derived.WalkLawsBesides
import Derived.Deep.QuietTactic
import Derived.BigQuiet
import Derived.Deep.LoopGhost
import Derived.Deep.DeepFit
import Derived.Deep.DeepMust
import Derived.Deep.RegionHeld3
import Derived.Deep.DeepCutAuto
import Derived.Laws.Rows
import Derived.Deep.AppendLies
import Derived.Sort.QuietIn
import Derived.Sort.LoopGhostIn
import Derived.Stop.RegionWithIn
import Derived.BigRegionIn
import Derived.Laws.Tables
import Derived.Deep.RegionLaw
import Derived.Deep.RegionWith
import Derived.StillTailTactics
import Derived.Lib.Hide
import Derived.RangeFuncNested
import Derived.RangeFuncBound
import Derived.RangeFuncCalls
import Derived.RangeFuncLeaves
import Derived.RangeFuncBox
import Derived.Shelf.Abstract
import Derived.Shelf.RegionOpen
import Derived.OwnWalkIn
import Derived.TacticsInMore
import Derived.LoopNIn
import Derived.LoopIn
import Derived.Maps.AppendAt
import Derived.Maps.OwnIn
import Derived.Test.YtccikcpcfdjobaaGreatDoorProg
import Derived.Test.YtccikcpcfdjobaaGreatDoorBs00
set_option linter.unusedVariables false
set_option linter.unusedSimpArgs false
set_option maxHeartbeats 8000000
set_option maxRecDepth 100000
namespace Go.Proofs.YtccikcpcfdjobaaGreatDoor
section
open Go.RowKit
def Rd (w : World) (B size : Nat) (A : Option Addr) (n : Nat) (xs : List Value) : Prop :=
 xs.length = n * size /\ (0 < n -> ∃ b off, A = some ⟨b, off, none⟩ /\ b < B /\ ∀ j, j < n * size -> w.cell? ⟨b, off + j, none⟩ = xs[j]?)
section
variable {w w' : World} {B B' size n : Nat} {A : Option Addr} {xs : List Value}
theorem Rd.keep (h : Rd w B size A n xs) (hk : ∀ b off, b < B -> w'.cell? ⟨b, off, none⟩ = w.cell? ⟨b, off, none⟩) : Rd w' B size A n xs := by
 refine ⟨h.1, fun hn => ?_⟩;obtain ⟨b, off, e, hb, hc⟩ := h.2 hn;exact ⟨b, off, e, hb, fun j hj => (hk _ _ hb).trans (hc j hj)⟩
theorem Rd.more (h : Rd w B size A n xs) (hB : B <= B') : Rd w B' size A n xs := by
 refine ⟨h.1, fun hn => ?_⟩;obtain ⟨b, off, e, hb, hc⟩ := h.2 hn;exact ⟨b, off, e, by omega, hc⟩
theorem Rd.below (h : Rd w B size A n xs) {C : Nat} (hb : Below C w w') (hC : B <= C) : Rd w' B size A n xs :=
 h.keep fun b off hlt => hb.cell (p := ⟨b, off, none⟩) (Nat.lt_of_lt_of_le hlt hC)
theorem Rd.nil (w : World) (B size : Nat) (A : Option Addr) : Rd w B size A 0 [] := ⟨by simp, fun h => absurd h (by omega)⟩
end
theorem y00 {a b : Bool} (h : a = b) : Ending.returned (.bool a) = .returned (.bool b) := by rw [h]
theorem y02 {a b : Int} (h : a = b) : Ending.returned (.int .i64 a) = .returned (.int .i64 b) := by rw [h]
def vcell (v : Int × Int) : List Value := [.int .i64 v.1, .int .i64 v.2]
def vcells (vs : List (Int × Int)) : List Value := vs.flatMap vcell
theorem yAq (vs : List (Int × Int)) {k : Nat} (hk : k < vs.length) :
    (vcells vs)[k * 2]? = some (.int .i64 vs[k].1) /\ (vcells vs)[k * 2 + 1]? = some (.int .i64 vs[k].2) := by
  induction vs generalizing k with
  | nil => simp at hk
  | cons v vs ih =>
    rw [show vcells (v :: vs) = vcell v ++ vcells vs from rfl];cases k with
    | zero => simp [vcell]
    | succ k =>
      have h2 : (vcell v).length = 2 := rfl;have := ih (k := k) (by simpa using hk);simp only [List.getElem_cons_succ];rw [List.getElem?_append_right (by omega), List.getElem?_append_right (by omega), h2, show (k + 1) * 2 - 2 = k * 2 from by omega, show (k + 1) * 2 + 1 - 2 = k * 2 + 1 from by omega];exact this
theorem Rd.var {w : World} {B : Nat} {A : Option Addr} {vs : List (Int × Int)} (h : Rd w B 2 A vs.length (vcells vs)) {k : Nat} (hk : k < vs.length) :
  ∃ b off, A = some ⟨b, off, none⟩ /\ b < B /\ w.cell? ⟨b, off + k * 2, none⟩ = some (.int .i64 vs[k].1) /\ w.cell? ⟨b, off + k * 2 + 1, none⟩ = some (.int .i64 vs[k].2) := by
 obtain ⟨b, off, e, hb, hc⟩ := h.2 (by omega);obtain ⟨h0, h1⟩ := yAq vs hk;refine ⟨b, off, e, hb, ?_, ?_⟩
 ·rw [hc _ (by omega), h0]
 rw [show off + k * 2 + 1 = off + (k * 2 + 1) from by omega, hc _ (by omega), h1]
def cval (c : Cs.Co) : Value := .agg #[.int .i64 c.b, .int .i64 c.n, .int .i64 c.l, .int .i64 c.y, .int .i64 c.w, .int .i64 c.s]
def ccell (c : Cs.Co) : List Value := [.int .i64 c.b, .int .i64 c.n, .int .i64 c.l, .int .i64 c.y, .int .i64 c.w, .int .i64 c.s]
def ccells (cs : List Cs.Co) : List Value := cs.flatMap ccell
theorem y9P (cs : List Cs.Co) {k : Nat} (hk : k < cs.length) (j : Nat) (hj : j < 6) : (ccells cs)[k * 6 + j]? = (ccell cs[k])[j]? := by
  induction cs generalizing k with
  | nil => simp at hk
  | cons c cs ih =>
    rw [show ccells (c :: cs) = ccell c ++ ccells cs from rfl];have h6 : (ccell c).length = 6 := rfl;cases k with
    | zero =>
      rw [List.getElem?_append_left (by omega)];simp
    | succ k =>
      have := ih (k := k) (by simpa using hk);rw [List.getElem?_append_right (by omega), h6, show (k + 1) * 6 + j - 6 = k * 6 + j from by omega];simpa using this
theorem Rd.course {w : World} {B : Nat} {A : Option Addr} {cs : List Cs.Co} (h : Rd w B 6 A cs.length (ccells cs)) {k : Nat} (hk : k < cs.length) :
  ∃ b off, A = some ⟨b, off, none⟩ /\ b < B /\ w.cell? ⟨b, off + k * 6, none⟩ = some (.int .i64 cs[k].b) /\ w.cell? ⟨b, off + k * 6 + 1, none⟩ = some (.int .i64 cs[k].n) /\
   w.cell? ⟨b, off + k * 6 + 2, none⟩ = some (.int .i64 cs[k].l) /\ w.cell? ⟨b, off + k * 6 + 3, none⟩ = some (.int .i64 cs[k].y) /\ w.cell? ⟨b, off + k * 6 + 4, none⟩ = some (.int .i64 cs[k].w) /\
   w.cell? ⟨b, off + k * 6 + 5, none⟩ = some (.int .i64 cs[k].s) := by
 obtain ⟨b, off, e, hb, hc⟩ := h.2 (by omega);have hat := fun j hj => y9P cs hk j hj;refine ⟨b, off, e, hb, ?_, ?_, ?_, ?_, ?_, ?_⟩
 ·rw [hc _ (by omega)]; exact hat 0 (by decide)
 ·rw [show off + k * 6 + 1 = off + (k * 6 + 1) from by omega, hc _ (by omega)]; exact hat 1 (by decide)
 ·rw [show off + k * 6 + 2 = off + (k * 6 + 2) from by omega, hc _ (by omega)]; exact hat 2 (by decide)
 ·rw [show off + k * 6 + 3 = off + (k * 6 + 3) from by omega, hc _ (by omega)]; exact hat 3 (by decide)
 ·rw [show off + k * 6 + 4 = off + (k * 6 + 4) from by omega, hc _ (by omega)]; exact hat 4 (by decide)
 rw [show off + k * 6 + 5 = off + (k * 6 + 5) from by omega, hc _ (by omega)]; exact hat 5 (by decide)
def Bk (w : World) (g : Nat) (t : TypeId) (cs : Array Value) : Prop := w.heap[g]? = some (.cells cs t (0, 0))
section
variable {w w' : World} {g : Nat} {t : TypeId} {cs : Array Value}
theorem Bk.lt (h : Bk w g t cs) : g < w.heap.size := (Array.getElem?_eq_some_iff.1 h).1
theorem Bk.cell (h : Bk w g t cs) (i : Nat) : w.cell? ⟨g, i, none⟩ = cs[i]? := by
 unfold Bk at h;simp [World.cell?, h]
theorem Bk.frozen (h : Bk w g t cs) (i : Nat) : w.frozen? ⟨g, i, none⟩ = false := by
 unfold Bk at h;simp [World.frozen?, h]
theorem Bk.new (w : World) (t : TypeId) (cs : Array Value) : Bk (w.alloc (.cells cs t)) w.heap.size t cs := World.alloc_heap_new w _
theorem Bk.alloc (h : Bk w g t cs) (o : Obj) : Bk (w.alloc o) g t cs := (Below.heap_alloc w o g h.lt).trans h
theorem Bk.below {C : Nat} (h : Bk w g t cs) (hb : Below C w w') (hg : g < C) : Bk w' g t cs := (hb.block g hg).trans h
theorem Bk.set (h : Bk w g t cs) (i : Nat) (u : Value) : Bk (w.setCell ⟨g, i, none⟩ u) g t (cs.setIfInBounds i u) := by
 unfold Bk at h ⊢;simp [World.setCell, Array.getElem?_modify, h]
theorem Bk.far (h : Bk w g t cs) {p : Addr} (hp : g ≠ p.block) (u : Value) : Bk (w.setCell p u) g t cs := (Below.heap_setCell w p u g hp).trans h
end
theorem Bk.row {w : World} {g : Nat} {t : TypeId} {cs : Array Value} (h : Bk w g t cs) (cs' : Array Value) : Bk (w.setRow g cs') g t cs' := setRow_heap w g cs cs' t (0, 0) h
theorem Bk.row_far {w : World} {g k : Nat} {t : TypeId} {cs : Array Value} (h : Bk w g t cs) (hk : g ≠ k) (cs' : Array Value) : Bk (w.setRow k cs') g t cs := by
 unfold Bk at h ⊢;simp only [World.setRow, Array.getElem?_modify];rw [if_neg (by omega)];exact h
theorem y3X (w : World) (g : Nat) (cs : Array Value) : (w.setRow g cs).heap.size = w.heap.size := by simp [World.setRow]
structure KeepX (M : Nat) (X : Nat -> Prop) (w w' : World) : Prop where
 os : w'.os = w.os
 tape : w'.tape = w.tape
 output : w'.output = w.output
 size : w.heap.size <= w'.heap.size
 block : ∀ k, k < M -> ¬ X k -> w'.heap[k]? = w.heap[k]?
section
variable {M : Nat} {X : Nat -> Prop} {a w w' : World}
theorem KeepX.refl (M : Nat) (X : Nat -> Prop) (w : World) : KeepX M X w w := ⟨rfl, rfl, rfl, Nat.le_refl _, fun _ _ _ => rfl⟩
theorem KeepX.trans {c : World} (h : KeepX M X a w) (k : KeepX M X w c) : KeepX M X a c :=
 ⟨k.os.trans h.os, k.tape.trans h.tape, k.output.trans h.output, Nat.le_trans h.size k.size, fun i hi hx => (k.block i hi hx).trans (h.block i hi hx)⟩
theorem KeepX.mono {M' : Nat} {X' : Nat -> Prop} (h : KeepX M X w w') (hM : M' <= M) (hX : ∀ k, k < M' -> X k -> X' k) : KeepX M' X' w w' :=
 ⟨h.os, h.tape, h.output, h.size, fun k hk hx => h.block k (Nat.lt_of_lt_of_le hk hM) (fun e => hx (hX k hk e))⟩
theorem KeepX.of_below (h : Below M w w') (X : Nat -> Prop) : KeepX M X w w' := ⟨h.os, h.tape, h.output, h.size, fun k hk _ => h.block k hk⟩
theorem KeepX.below (h : KeepX M X w w') {B : Nat} (hB : B <= M) (hX : ∀ k, k < B -> ¬ X k) : Below B w w' :=
 ⟨h.os, h.tape, h.output, h.size, fun k hk => h.block k (Nat.lt_of_lt_of_le hk hB) (hX k hk)⟩
theorem KeepX.of_grown {row : Option Nat} (h : w.grownBy w' row) (hM : M <= w.heap.size) (hr : ∀ k, row = some k -> k < M -> X k) : KeepX M X w w' :=
 ⟨h.os, h.tape, h.output, h.size, fun k hk hx => h.block k (by omega) (fun e => hx (hr k e.symm hk))⟩
theorem KeepX.drew (h : KeepX M X a w) : KeepX M X a w.drew := ⟨h.os, h.tape, h.output, h.size, h.block⟩
theorem KeepX.drewN (h : KeepX M X a w) (n : Nat) : KeepX M X a (w.drewN n) := ⟨h.os, h.tape, h.output, h.size, h.block⟩
theorem KeepX.setCell (h : KeepX M X a w) {p : Addr} (hp : p.block < M -> X p.block) (u : Value) : KeepX M X a (w.setCell p u) :=
 h.trans ⟨rfl, rfl, rfl, by simp [World.setCell], fun k hk hx => Below.heap_setCell _ _ _ _ (fun e => hx (by rw [e]; exact hp (by omega)))⟩
theorem KeepX.setRow (h : KeepX M X a w) {g : Nat} (hp : g < M -> X g) (cs : Array Value) : KeepX M X a (w.setRow g cs) := by
 refine h.trans ⟨rfl, rfl, rfl, by simp [World.setRow], fun k hk hx => ?_⟩;simp only [World.setRow, Array.getElem?_modify];rw [if_neg (fun e => hx (by rw [<- e]; exact hp (by omega)))]
theorem KeepX.bk (h : KeepX M X w w') {g : Nat} {t : TypeId} {cs : Array Value} (hb : Bk w g t cs) (hg : g < M) (hx : ¬ X g) : Bk w' g t cs := (h.block g hg hx).trans hb
end
end

section
open Go.RowKit
namespace Cs
theorem y8s (d : Int) : (d.tmod 360 + 360) % 360 = norm d := by
 obtain ⟨a, b, q, c⟩ := yAm d;rw [c, norm];omega
theorem y4c (a b : Int) (ha : -9223372036854775807 <= a) (ha' : a <= 9223372036854775807) (hb : 0 < b) : -9223372036854775807 <= a.tdiv b /\ a.tdiv b <= 9223372036854775807 := by
 have h := Int.natAbs_tdiv a b;have h2 : a.natAbs / b.natAbs <= a.natAbs := Nat.div_le_self _ _;have h3 : (a.tdiv b).natAbs <= a.natAbs := by rw [h]; exact h2
 omega
theorem y2B (a b : Int) (ha : -9223372036854775807 <= a) (ha' : a <= 9223372036854775807) (hb : 0 < b) : -9223372036854775807 <= flo a b /\ flo a b <= 9223372036854775807 := by
 unfold flo;constructor
 ·rw [Int.le_ediv_iff_mul_le hb];have : -9223372036854775807 * b <= -9223372036854775807 * 1 := Int.mul_le_mul_of_nonpos_left (by decide) (by omega);omega
 have h : a / b < 9223372036854775808 := by
  rw [Int.ediv_lt_iff_lt_mul hb];have : (9223372036854775808 : Int) * 1 <= 9223372036854775808 * b := Int.mul_le_mul_of_nonneg_left (by omega) (by decide);omega
 omega
theorem yAk (a b : Int) (hb : 0 < b) : ((0 <= a -> 0 <= a.tdiv b * b /\ a.tdiv b * b <= a) /\ (a < 0 -> a <= a.tdiv b * b /\ a.tdiv b * b <= 0)) /\ (a < a.tdiv b * b ↔ a.tmod b < 0) := by
 have h1 := Int.tmod_add_mul_tdiv a b;rw [Int.mul_comm] at h1;refine ⟨⟨fun h => ?_, fun h => ?_⟩, by omega⟩
 ·have := Int.tmod_nonneg b h;have := Int.mul_nonneg (Int.tdiv_nonneg h (by omega : 0 <= b)) (by omega : 0 <= b);omega
 have h2 := Int.tmod_nonneg b (show 0 <= -a by omega);rw [Int.neg_tmod] at h2;have h3 := Int.mul_nonneg (Int.tdiv_nonneg (show 0 <= -a by omega) (by omega : 0 <= b)) (by omega : 0 <= b);rw [Int.neg_tdiv, Int.neg_mul] at h3;omega
def hb : Nat -> Int
 | 0 => 0
 | k + 1 => 2 ^ k
theorem y9q (k : Nat) : 0 < hb (k + 1) := Int.pow_pos (by decide)
theorem yBx {k : Nat} (h : k <= 32) : 0 <= hb k /\ hb k <= 2147483648 := by
 have : ∀ k ∈ List.range 33, 0 <= hb k /\ hb k <= 2147483648 := by decide
 exact this k (List.mem_range.2 (by omega))
theorem yCF (k : Nat) : hb (k + 1) / 2 = hb k := by
  cases k with
  | zero => rfl
  | succ k =>
    show (2 : Int) ^ (k + 1) / 2 = 2 ^ k;rw [Int.pow_succ, Int.mul_ediv_cancel _ (by decide)]
theorem yBw (k : Nat) : k = 0 ∨ hb (k + 1) = 2 * hb k := by
 cases k with
 | zero => exact .inl rfl
 | succ k => exact .inr (by show (2 : Int) ^ (k + 1) = 2 * 2 ^ k; rw [Int.pow_succ]; omega)
theorem yBj (a b : Int) (ha : -9223372036854775808 <= a) (ha' : a <= 9223372036854775807) (hb : 0 < b) : -9223372036854775808 <= a.tdiv b /\ a.tdiv b <= 9223372036854775807 := by
 have h := Int.natAbs_tdiv a b;have h2 : a.natAbs / b.natAbs <= a.natAbs := Nat.div_le_self _ _;have h3 : (a.tdiv b).natAbs <= a.natAbs := by rw [h]; exact h2
 by_cases h4 : 0 <= a
 ·have := Int.tdiv_nonneg h4 (by omega : 0 <= b);omega
 have := Int.tdiv_nonneg (show 0 <= -a by omega) (by omega : 0 <= b);rw [Int.neg_tdiv] at this;omega
theorem yAb {n r : Int} {k : Nat} (hr : 0 <= r) : (r + hb (k + 1) <= n.tdiv (r + hb (k + 1))) ↔ (r + 2 ^ k) * (r + 2 ^ k) <= n := by
 have hp := y9q k;have e : hb (k + 1) = 2 ^ k := rfl;rw [e] at hp ⊢;obtain ⟨t, ht⟩ := zE (r + 2 ^ k);rw [ht];have ht0 : 0 < t := by omega
 rcases Int.lt_or_le n 0 with h | h
 ·have h1 : n.tdiv t <= 0 := by
   have h2 : (-n).tdiv t ≥ 0 := Int.tdiv_nonneg (by omega) (by omega);rw [Int.neg_tdiv] at h2;omega
  have h2 : 0 < t * t := Int.mul_pos ht0 ht0;constructor <;> intro <;> omega
 rw [Int.tdiv_eq_ediv_of_nonneg h, Int.le_ediv_iff_mul_le ht0]
theorem yAa {n : Int} (h : n < 0) (k : Nat) (r : Int) : rootF n k r = r := by
  induction k generalizing r with
  | zero => rfl
  | succ k ih =>
    rw [rootF, if_neg, ih];have : 0 <= (r + 2 ^ k) * (r + 2 ^ k) := by
      rcases Int.le_total 0 (r + 2 ^ k) with h | h
      · exact Int.mul_nonneg h h
      rw [<- Int.neg_mul_neg];exact Int.mul_nonneg (by omega) (by omega)
    omega
theorem y6Q (n : Int) : rootF n 32 0 = root n := by
 unfold root;split
 ·rename_i h; exact yAa h _ _
 rfl
end Cs
theorem y0H (a b c : Int) (w : World) :
  Calls Tryz.prog 127 #[.int .i64 a, .int .i64 b, .int .i64 c] w fun e w' => e = .returned (.bool (decide (a <= b /\ b <= c))) /\ w = w' := by
 by_cases h : a <= b
 ·go_enter Tryz.func127, Tryz.ntmps127
  go_wp2
  go_ret;exact ⟨y00 (by simp [h]), rfl⟩
 go_enter Tryz.func127, Tryz.ntmps127
 go_wp2
 go_ret;exact ⟨y00 (by simp; omega), rfl⟩
theorem y0s (d : Int) (w : World) :
  Calls Tryz.prog 119 #[.int .i64 d] w fun e w' => e = .returned (.int .i64 (Cs.norm d)) /\ w = w' := by
 obtain ⟨h1, h2, q, h3⟩ := Cs.yAm d;have hc := jQ (Cs.y8s d);clear h3;go_enter Tryz.func119, Tryz.ntmps119
 go_wp2
 go_ret;exact ⟨y02 hc.o, rfl⟩
theorem y1F (d : Int) (w : World) :
  Calls Tryz.prog 121 #[.int .i64 d] w fun e w' => e = .returned (.int .i64 (Cs.norm d)) /\ w = w' := by
 obtain ⟨h1, h2, q, h3⟩ := Cs.yAm d;clear h3;by_cases h : d.tmod 360 < 0
 ·have hc := jQ (Cs.yBG d h);go_enter Tryz.func121, Tryz.ntmps121
  go_wp2
  go_ret;exact ⟨y02 hc.o, rfl⟩
 have hc := jQ (Cs.yBH d (by omega));go_enter Tryz.func121, Tryz.ntmps121
 go_wp2
 go_ret;exact ⟨y02 hc.o, rfl⟩
theorem y5m (a b : Int) (ha : -9223372036854775807 <= a) (ha' : a <= 9223372036854775807) (hb : 0 < b) (w : World) :
  Calls Tryz.prog 289 #[.int .i64 a, .int .i64 b] w fun e w' => e = .returned (.int .i64 (Cs.flo a b)) /\ w = w' := by
 have hq := Cs.y81 a b hb;have hr := Cs.y4c a b ha ha' hb;have hb0 : ¬ b = 0 := by omega
 have HQ := jQ hq;obtain ⟨r1, r2⟩ := hr;clear hq;by_cases h : a.tmod b < 0
 ·go_enter Tryz.func289, Tryz.ntmps289
  go_wp2
  go_ret;have := HQ.o;rw [if_pos h] at this;exact ⟨y02 (by omega), rfl⟩
 go_enter Tryz.func289, Tryz.ntmps289
 go_wp2
 go_ret;have := HQ.o;rw [if_neg (by omega)] at this;exact ⟨y02 (by omega), rfl⟩
theorem y7d (a b : Int) (ha : -9223372036854775807 <= a) (ha' : a <= 9223372036854775807) (hb : 0 < b) (w : World) :
  Calls Tryz.prog 292 #[.int .i64 a, .int .i64 b] w fun e w' => e = .returned (.int .i64 (Cs.cei a b)) /\ w = w' := by
 have hr := Cs.y2B (-a) b (by omega) (by omega) hb;obtain ⟨r1, r2⟩ := hr;have hc : Cs.cei a b = -(Cs.flo (-a) b) := rfl;obtain ⟨q, hq⟩ := zE (Cs.flo (-a) b);have hfa := fun w => y5m (-a) b (by omega) (by omega) hb w;rw [hq] at hc r1 r2;simp only [hq] at hfa;rw [hc];have HFA := jQ hfa;clear hfa hc hq;go_enter Tryz.func292, Tryz.ntmps292;go_wp2_with (go_at_call 289; refine (HFA.o _).mono ?_; rintro e w' ⟨rfl, rfl⟩);go_ret;exact ⟨rfl, rfl⟩
theorem y1y (a b : Int) (ha : -9223372036854775807 <= a) (ha' : a <= 9223372036854775807) (hb : 0 < b) (w : World) :
  Calls Tryz.prog 246 #[.int .i64 a, .int .i64 b] w fun e w' => e = .returned (.int .i64 (Cs.flo a b)) /\ w = w' := by
 have hr := Cs.y4c a b ha ha' hb;have hb0 : ¬ b = 0 := by omega
 obtain ⟨r1, r2⟩ := hr;have hp := Cs.yAk a b hb;obtain ⟨q, hq⟩ := zE (a.tdiv b);rw [hq] at hp r1 r2;obtain ⟨⟨hp0, hp1⟩, hp2⟩ := hp;have hm1 : -9223372036854775808 <= q * b := by omega
 have hm2 : q * b <= 9223372036854775807 := by omega
 have hfl := Cs.y81 a b hb;rw [hq] at hfl;by_cases h : a < q * b
 ·rw [if_pos (hp2.1 h)] at hfl;have HF := jQ (show q - 1 = Cs.flo a b by omega);clear hp2 hp1 hp0 hfl;go_enter Tryz.func246, Tryz.ntmps246
  go_wp2
  go_ret;exact ⟨y02 HF.o, rfl⟩
 rw [if_neg (fun e => h (hp2.2 e))] at hfl;have HF := jQ (show q = Cs.flo a b by omega);clear hp2 hp1 hp0 hfl;go_enter Tryz.func246, Tryz.ntmps246
 go_wp2
 go_ret;exact ⟨y02 HF.o, rfl⟩
theorem y7x (n : Int) (hn : -9223372036854775808 <= n) (hn' : n <= 9223372036854775807) (w : World) :
  Calls Tryz.prog 288 #[.int .i64 n] w fun e w' => e = .returned (.int .i64 (Cs.root n)) /\ w = w' := by
 have HC := jQ (Cs.y6Q n);go_enter Tryz.func288, Tryz.ntmps288
 go_wp2
 go_loop [3, 4] (fun r b => ∃ (k : Nat) (x : Int), k <= 32 /\ b = .int .i64 (Cs.hb k) /\ r = .int .i64 x /\ 0 <= x /\ x <= 4294967296 - Cs.hb k * 2 /\ Cs.rootF n k x = Cs.rootF n 32 0) (fun _ b => (intOf b).toNat)
 case atStart => exact ⟨32, 0, by omega, rfl, rfl, by omega, by decide, rfl⟩
 obtain ⟨k, x, hk, rfl, rfl, hx0, hx1, hF⟩ := hrel;rcases k with _ | k
 ·have hF2 : x = Cs.root n := by rw [<- HC.o, <- hF]; rfl
  have HF := jQ hF2;have h0 : Cs.hb 0 = 0 := rfl;clear hF hF2
  go_wp2
  go_ret;exact ⟨y02 HF.o, rfl⟩
 have hp := Cs.y9q k;have ht := (Cs.yBx hk).2;have hs := Cs.yAb (n := n) (k := k) hx0;have hh := Cs.yCF k;have hd := Cs.yBw k;rw [Cs.rootF] at hF;obtain ⟨B, hB⟩ := zE (Cs.hb (k + 1));rw [hB] at hp ht hs hh hd hx1 ⊢;have e2 : (2 : Int) ^ k = B := hB;rw [e2] at hs hF;have HB := jQ hB;have hq0 : ¬ (x + B = 0) := by omega
 have hr := Cs.yBj n (x + B) hn hn' (by omega);by_cases hc : x + B <= n.tdiv (x + B)
 ·rw [if_pos (hs.1 hc)] at hF;have HF := jQ hF;have HH := jQ hh;have HD := jQ hd;clear hF hs hh e2 hB hd
  go_wp2
  refine ⟨⟨k, _, by omega, by rw [HH.o], rfl, by omega, ?_, HF.o⟩, by simp [intOf]; omega⟩;rcases HD.o with rfl | e
  ·have : Cs.hb 0 = 0 := rfl;omega
  omega
 rw [if_neg (fun e => hc (hs.2 e))] at hF;have HF := jQ hF;have HH := jQ hh;have HD := jQ hd;clear hF hs hh e2 hB hd
 go_wp2
 refine ⟨⟨k, _, by omega, by rw [HH.o], rfl, by omega, ?_, HF.o⟩, by simp [intOf]; omega⟩;rcases HD.o with rfl | e
 ·have : Cs.hb 0 = 0 := rfl;omega
 omega
theorem y6R (n : Int) (hn : -9223372036854775808 <= n) (hn' : n <= 9223372036854775807) (w : World) :
  Calls Tryz.prog 247 #[.int .i64 n] w fun e w' => e = .returned (.int .i64 (Cs.root n)) /\ w = w' := by
 by_cases h0 : n < 1
 ·have hr : Cs.root n = 0 := by
   rcases Int.lt_or_le n 0 with h | h
   ·exact Cs.y5N h
   obtain rfl : n = 0 := by omega
   decide
  have HR := jQ hr;clear hr;go_enter Tryz.func247, Tryz.ntmps247
  go_wp2
  go_ret;exact ⟨y02 (by rw [HR.o]), rfl⟩
 have HC := jQ (Cs.y6Q n);go_enter Tryz.func247, Tryz.ntmps247
 go_wp2
 go_loop [3, 4] (fun r b => ∃ (k : Nat) (x : Int), k <= 32 /\ b = .int .i64 ((k : Int) - 1) /\ r = .int .i64 x /\ 0 <= x /\ x <= 4294967296 - Cs.hb k * 2 /\ Cs.rootF n k x = Cs.rootF n 32 0) (fun _ b => (intOf b + 1).toNat)
 case atStart => exact ⟨32, 0, by omega, rfl, rfl, by omega, by decide, rfl⟩
 obtain ⟨k, x, hk, rfl, rfl, hx0, hx1, hF⟩ := hrel;rcases k with _ | k
 ·have hF2 : x = Cs.root n := by rw [<- HC.o, <- hF]; rfl
  have HF := jQ hF2;clear hF hF2 hx1 hk;rw [show ((0 : Nat) : Int) - 1 = -1 from rfl]
  go_wp2
  go_ret;exact ⟨y02 HF.o, rfl⟩
 have hp := Cs.y9q k;have ht := (Cs.yBx hk).2;have hd := Cs.yBw k;rw [Cs.rootF] at hF;obtain ⟨B, hB⟩ := zE (Cs.hb (k + 1));rw [hB] at hp ht hd hx1;have e2 : (2 : Int) ^ k = B := hB;rw [e2] at hF;have hki : ((k + 1 : Nat) : Int) - 1 = (k : Int) := by omega
 rw [hki];have hk0 : (0 : Int) <= (k : Int) := Int.natCast_nonneg _;have hk31 : (k : Int) <= 31 := by omega
 have hfin : ∀ y, (y = x ∨ y = x + B) -> Cs.rootF n k y = Cs.rootF n 32 0 -> ((∃ k_1 x_1, k_1 <= 32 /\ Value.int IntKind.i64 ((k : Int) - 1) = Value.int IntKind.i64 ((k_1 : Nat) - 1 : Int) /\ Value.int IntKind.i64 y = Value.int IntKind.i64 x_1 /\ 0 <= x_1 /\ x_1 <= 4294967296 - Cs.hb k_1 * 2 /\ Cs.rootF n k_1 x_1 = Cs.rootF n 32 0) /\ (intOf (Value.int IntKind.i64 ((k : Int) - 1)) + 1).toNat < (intOf (Value.int IntKind.i64 (k : Int)) + 1).toNat) := fun y hy hr => by
  refine ⟨⟨k, y, by omega, rfl, rfl, by omega, ?_, hr⟩, by first | (simp [intOf]; done) | (simp [intOf]; omega)⟩;rcases hd with rfl | e
  ·have : Cs.hb 0 = 0 := rfl;have : B = 1 := hB.symm;omega
  omega
 have HFIN := jQ hfin;clear hfin hd hB;rcases Int.lt_or_le 3037000499 (x + B) with hc | hc
 ·have hbig : ¬ (x + B) * (x + B) <= n := by
   have : (3037000500 : Int) * 3037000500 <= (x + B) * (x + B) := Int.mul_le_mul (by omega) (by omega) (by decide) (by omega);omega
  rw [if_neg hbig] at hF;have HF := jQ hF;clear hF hbig
  go_wp2
  exact HFIN.o _ (.inl rfl) HF.o
 have hm1 : (x + B) * (x + B) <= 9223372036854775807 := by
  have : (x + B) * (x + B) <= 3037000499 * 3037000499 := Int.mul_le_mul hc hc (by omega) (by decide);omega
 have hm0 : 0 <= (x + B) * (x + B) := Int.mul_nonneg (by omega) (by omega);by_cases hs : (x + B) * (x + B) <= n
 ·rw [if_pos hs] at hF;have HF := jQ hF;clear hF
  go_wp2
  exact HFIN.o _ (.inr rfl) HF.o
 rw [if_neg hs] at hF;have HF := jQ hF;clear hF
 go_wp2
 exact HFIN.o _ (.inl rfl) HF.o
end

section
open Go.RowKit
def Sn (w : World) : Prop := 8 < w.heap.size /\ ∀ k : Nat, k < 91 -> w.cell? ⟨8, k, none⟩ = some (.int .i64 (Cs.tb k))
theorem Sn.below {w w' : World} {C : Nat} (h : Sn w) (hb : Below C w w') (hC : 8 < C) : Sn w' :=
 ⟨Nat.lt_of_lt_of_le h.1 hb.size, fun k hk => (hb.cell (p := ⟨8, k, none⟩) hC).trans (h.2 k hk)⟩
theorem Sn.step {w w' : World} (h : Sn w) (hb : Below w.heap.size w w') : Sn w' := h.below hb h.1
theorem y94 (n : Int) (hn : -9223372036854775808 <= n) (hn' : n <= 9223372036854775807) (w : World) :
  Calls Tryz.prog 293 #[.int .i64 n] w fun e w' => e = .returned (.int .i64 (Cs.rootUp n)) /\ w = w' := by
 obtain ⟨r0, r1⟩ := Cs.y1A hn';have hR := fun w => y7x n hn hn' w;have hu : Cs.rootUp n = if Cs.root n * Cs.root n < n then Cs.root n + 1 else Cs.root n := rfl
 obtain ⟨r, hr⟩ := zE (Cs.root n);simp only [hr] at hR hu r0 r1;have HR := jQ hR;have hm1 : r * r <= 9223372036854775807 := by
  have : r * r <= 3037000499 * 3037000499 := Int.mul_le_mul r1 r1 r0 (by decide);omega
 have hm0 : 0 <= r * r := Int.mul_nonneg r0 r0;clear hR hr;by_cases h : r * r < n
 ·rw [if_pos h] at hu;rw [hu];clear hu;go_enter Tryz.func293, Tryz.ntmps293;go_wp2_with (go_at_call 288; refine (HR.o _).mono ?_; rintro e w' ⟨rfl, rfl⟩);go_ret;exact ⟨rfl, rfl⟩
 rw [if_neg h] at hu;rw [hu];clear hu;go_enter Tryz.func293, Tryz.ntmps293;go_wp2_with (go_at_call 288; refine (HR.o _).mono ?_; rintro e w' ⟨rfl, rfl⟩);go_ret;exact ⟨rfl, rfl⟩
theorem y7M (n : Int) (hn : -9223372036854775808 <= n) (hn' : n <= 9223372036854775807) (w : World) :
  Calls Tryz.prog 248 #[.int .i64 n] w fun e w' => e = .returned (.int .i64 (Cs.rootUp n)) /\ w = w' := by
 obtain ⟨r0, r1⟩ := Cs.y1A hn';have hR := fun w => y6R n hn hn' w;have hu : Cs.rootUp n = if Cs.root n * Cs.root n < n then Cs.root n + 1 else Cs.root n := rfl
 obtain ⟨r, hr⟩ := zE (Cs.root n);simp only [hr] at hR hu r0 r1;have HR := jQ hR;have hm1 : r * r <= 9223372036854775807 := by
  have : r * r <= 3037000499 * 3037000499 := Int.mul_le_mul r1 r1 r0 (by decide);omega
 have hm0 : 0 <= r * r := Int.mul_nonneg r0 r0;clear hR hr;by_cases h : r * r < n
 ·rw [if_pos h] at hu;rw [hu];clear hu;have hn0 : 0 < n := by omega
  go_enter Tryz.func248, Tryz.ntmps248;go_wp2_with (go_at_call 247; refine (HR.o _).mono ?_; rintro e w' ⟨rfl, rfl⟩);go_ret;exact ⟨rfl, rfl⟩
 rw [if_neg h] at hu;rw [hu];clear hu;rcases Int.lt_or_le 0 n with hn0 | hn0
 all_goals
  go_enter Tryz.func248, Tryz.ntmps248;go_wp2_with (go_at_call 247; refine (HR.o _).mono ?_; rintro e w' ⟨rfl, rfl⟩);go_ret;exact ⟨rfl, rfl⟩
theorem y7Q (d : Int) (w : World) (hs : Sn w) :
  Calls Tryz.prog 291 #[.int .i64 d] w fun e w' => e = .returned (.int .i64 (Cs.sin d)) /\ w = w' := by
 have hN := fun w => y0s d w;obtain ⟨n0, n1⟩ := Cs.y0M d;have hu : Cs.sin d = Cs.sinI (Cs.norm d) := rfl;obtain ⟨n, hn⟩ := zE (Cs.norm d);simp only [hn] at hN hu n0 n1;obtain ⟨m, rfl⟩ : ∃ m : Nat, n = m := ⟨n.toNat, by omega⟩;rw [hu];rw [Cs.sinI];have HN := jQ hN;clear hN hn hu n0;have hl := hs.1;by_cases h1 : 180 < m
 ·rw [if_pos (by omega)];by_cases h2 : 90 < m - 180
  ·rw [if_pos (by omega)];have e := hs.2 (360 - m) (by omega);have hb := Cs.y18 ((360 : Int) - (m : Int));rw [show ((360 - m : Nat) : Int) = 360 - (m : Int) by omega] at e;obtain ⟨x, hx⟩ := zE (Cs.tb ((360 : Int) - (m : Int)));rw [hx] at e hb ⊢;obtain ⟨hb0, hb1⟩ := hb;have i1 : (180 : Int) < (m : Int) := by omega
   have i2 : (90 : Int) < (m : Int) - 180 := by omega
   have i3 : ((180 : Int) - ((m : Int) - 180)).toNat = 360 - m := by omega
   clear hx hs;go_enter Tryz.func291, Tryz.ntmps291;go_wp2_with (go_at_call 119; refine (HN.o _).mono ?_; rintro e w' ⟨rfl, rfl⟩);go_ret;exact ⟨rfl, rfl⟩
  rw [if_neg (by omega)];have e := hs.2 (m - 180) (by omega);have hb := Cs.y18 ((m : Int) - 180);rw [show ((m - 180 : Nat) : Int) = (m : Int) - 180 by omega] at e;obtain ⟨x, hx⟩ := zE (Cs.tb ((m : Int) - 180));rw [hx] at e hb ⊢;obtain ⟨hb0, hb1⟩ := hb;have i1 : (180 : Int) < (m : Int) := by omega
  have i2 : (m : Int) - 180 <= 90 := by omega
  have i3 : ((m : Int) - 180).toNat = m - 180 := by omega
  clear hx hs;go_enter Tryz.func291, Tryz.ntmps291;go_wp2_with (go_at_call 119; refine (HN.o _).mono ?_; rintro e w' ⟨rfl, rfl⟩);go_ret;exact ⟨rfl, rfl⟩
 rw [if_neg (by omega)];by_cases h2 : 90 < m
 ·rw [if_pos (by omega)];have e := hs.2 (180 - m) (by omega);have hb := Cs.y18 ((180 : Int) - (m : Int));rw [show ((180 - m : Nat) : Int) = 180 - (m : Int) by omega] at e;obtain ⟨x, hx⟩ := zE (Cs.tb ((180 : Int) - (m : Int)));rw [hx] at e hb ⊢;obtain ⟨hb0, hb1⟩ := hb;have i1 : (m : Int) <= 180 := by omega
  have i2 : (90 : Int) < (m : Int) := by omega
  have i3 : ((180 : Int) - (m : Int)).toNat = 180 - m := by omega
  clear hx hs;go_enter Tryz.func291, Tryz.ntmps291;go_wp2_with (go_at_call 119; refine (HN.o _).mono ?_; rintro e w' ⟨rfl, rfl⟩);go_ret;exact ⟨rfl, rfl⟩
 rw [if_neg (by omega)];have e := hs.2 (m) (by omega);have hb := Cs.y18 ((m : Int));obtain ⟨x, hx⟩ := zE (Cs.tb ((m : Int)));rw [hx] at e hb ⊢;obtain ⟨hb0, hb1⟩ := hb;have i1 : (m : Int) <= 180 := by omega
 have i2 : (m : Int) <= 90 := by omega
 clear hx hs;go_enter Tryz.func291, Tryz.ntmps291;go_wp2_with (go_at_call 119; refine (HN.o _).mono ?_; rintro e w' ⟨rfl, rfl⟩);go_ret;exact ⟨rfl, rfl⟩
theorem y9Z (d : Int) (w : World) (hs : Sn w) :
  Calls Tryz.prog 290 #[.int .i64 d] w fun e w' => e = .returned (.int .i64 (Cs.cos d)) /\ w = w' := by
 have hN := fun w => y0s d w;obtain ⟨n0, n1⟩ := Cs.y0M d;have hu : Cs.cos d = Cs.sin (Cs.norm d + 90) := rfl;rw [hu];obtain ⟨n, hn⟩ := zE (Cs.norm d);simp only [hn] at hN n0 n1 ⊢;have HN := jQ hN;have HS := jQ hs;clear hN hn hu hs;go_enter Tryz.func290, Tryz.ntmps290;go_wp2_with (first
  | (go_at_call 119; refine (HN.o _).mono ?_; rintro e w' ⟨rfl, rfl⟩)
  | (go_at_call 291; refine (y7Q (n + 90) _ HS.o).mono ?_; rintro e w' ⟨rfl, rfl⟩))
 go_ret;exact ⟨rfl, rfl⟩
def snArr : Array Value := (Cs.T.map (Value.int .i64)).toArray
theorem y80 {k : Nat} (hk : k < 91) : snArr[k]? = some (.int .i64 (Cs.tb k)) := by
 have h := Cs.yD7 (k := (k : Int)) (by omega) (by omega);rw [Int.toNat_natCast] at h;simp [snArr, h]
theorem y2c (w : World) :
  Calls Tryz.prog 267 #[] w fun e w' => e = .returned (.slice (some ⟨w.heap.size, 0, none⟩) 91 91) /\ w' = w.alloc (.cells snArr 3) := by
 go_enter Tryz.func267, Tryz.ntmps267
 go_wp2
 go_ret;exact ⟨rfl, rfl⟩
theorem y7z (d : Int) (w : World) (h180 : Cs.norm d <= 180) :
  Calls Tryz.prog 243 #[.int .i64 d] w fun e w' => e = .returned (.int .i64 (Cs.sin d)) /\ Below w.heap.size w w' := by
 have hN := fun w => y1F d w;obtain ⟨n0, n1⟩ := Cs.y0M d;have hu : Cs.sin d = Cs.sinI (Cs.norm d) := rfl;obtain ⟨n, hn⟩ := zE (Cs.norm d);simp only [hn] at hN hu n0 n1 h180;obtain ⟨m, rfl⟩ : ∃ m : Nat, n = m := ⟨n.toNat, by omega⟩;rw [hu];rw [Cs.sinI, if_neg (by omega)];have HN := jQ hN;have hB := (Below.refl w.heap.size w).alloc (Nat.le_refl _) (.cells snArr 3);have kT := Bk.new w 3 snArr;have HB := jQ hB;clear hN hn hu n0 hB;by_cases h2 : 90 < m
 ·rw [if_pos (by omega)];have e := (kT.cell (180 - m)).trans (y80 (by omega));rw [show ((180 - m : Nat) : Int) = 180 - (m : Int) by omega] at e;obtain ⟨x, hx⟩ := zE (Cs.tb (180 - (m : Int)));rw [hx] at e ⊢;have i1 : (m : Int) <= 180 := by omega
  have i2 : (90 : Int) < (m : Int) := by omega
  have i3 : ((180 : Int) - (m : Int)).toNat = 180 - m := by omega
  clear hx kT;go_enter Tryz.func243, Tryz.ntmps243;go_wp2_with (first
   | (go_at_call 121; refine (HN.o _).mono ?_; rintro e w' ⟨rfl, rfl⟩)
   | (go_at_call 267; refine (y2c _).mono ?_; rintro e w' ⟨rfl, rfl⟩))
  go_ret;exact ⟨rfl, HB.o⟩
 rw [if_neg (by omega)];have e := (kT.cell m).trans (y80 (by omega));obtain ⟨x, hx⟩ := zE (Cs.tb (m : Int));rw [hx] at e ⊢;have i1 : (m : Int) <= 180 := by omega
 have i2 : (m : Int) <= 90 := by omega
 clear hx kT;go_enter Tryz.func243, Tryz.ntmps243;go_wp2_with (first
  | (go_at_call 121; refine (HN.o _).mono ?_; rintro e w' ⟨rfl, rfl⟩)
  | (go_at_call 267; refine (y2c _).mono ?_; rintro e w' ⟨rfl, rfl⟩))
 go_ret;exact ⟨rfl, HB.o⟩
theorem Cs.yBT {d : Int} (h : 180 < Cs.norm d) : Cs.sin d = -(Cs.sin (Cs.norm d - 180)) /\ Cs.norm (Cs.norm d - 180) = Cs.norm d - 180 := by
 obtain ⟨n0, n1⟩ := Cs.y0M d;have e : Cs.norm (Cs.norm d - 180) = Cs.norm d - 180 := by
  show (Cs.norm d - 180) % 360 = Cs.norm d - 180;omega
 refine ⟨?_, e⟩;show Cs.sinI (Cs.norm d) = -(Cs.sinI (Cs.norm (Cs.norm d - 180)));rw [e];obtain ⟨n, hn⟩ := zE (Cs.norm d);rw [hn] at h n1 ⊢;unfold Cs.sinI;rw [if_pos h, if_neg (show ¬ 180 < n - 180 by omega)];split
 ·rw [show 180 - (n - 180) = 360 - n by omega]
 rfl
theorem y2M (d : Int) (w : World) :
  Calls Tryz.prog 243 #[.int .i64 d] w fun e w' => e = .returned (.int .i64 (Cs.sin d)) /\ Below w.heap.size w w' := by
 rcases Int.lt_or_le 180 (Cs.norm d) with h | h
 ·obtain ⟨hs, hn2⟩ := Cs.yBT h;have hN := fun w => y1F d w;obtain ⟨n0, n1⟩ := Cs.y0M d;have hlow := fun w => y7z (Cs.norm d - 180) w (by omega);have hr := Cs.y3W (Cs.norm d - 180);rw [hs];obtain ⟨n, hn⟩ := zE (Cs.norm d);simp only [hn] at hN n0 n1 h hlow hr ⊢;obtain ⟨x, hx⟩ := zE (Cs.sin (n - 180));simp only [hx] at hlow hr ⊢;have HN := jQ hN;have HL := jQ hlow;have HB := jQ ((Below.refl w.heap.size w).alloc (Nat.le_refl _) (.cells snArr 3));obtain ⟨r0, r1⟩ := hr;clear hN hn hx hs hn2 hlow;go_enter Tryz.func243, Tryz.ntmps243;go_wp2_with (first
   | (go_at_call 121; refine (HN.o _).mono ?_; rintro e w' ⟨rfl, rfl⟩)
   | (go_at_call 267; refine (y2c _).mono ?_; rintro e w' ⟨rfl, rfl⟩)
   | (go_at_call 243; refine (HL.o _).mono ?_; rintro e w' ⟨rfl, hb⟩))
  go_ret;exact ⟨rfl, HB.o.trans (hb.mono HB.o.size)⟩
 exact y7z d w h
theorem y2u (d : Int) (w : World) :
  Calls Tryz.prog 244 #[.int .i64 d] w fun e w' => e = .returned (.int .i64 (Cs.cos d)) /\ Below w.heap.size w w' := by
 have hN := fun w => y1F d w;obtain ⟨n0, n1⟩ := Cs.y0M d;have hu : Cs.cos d = Cs.sin (Cs.norm d + 90) := rfl;rw [hu];obtain ⟨n, hn⟩ := zE (Cs.norm d);simp only [hn] at hN n0 n1 ⊢;have HN := jQ hN;clear hN hn hu;go_enter Tryz.func244, Tryz.ntmps244;go_wp2_with (first
  | (go_at_call 121; refine (HN.o _).mono ?_; rintro e w' ⟨rfl, rfl⟩)
  | (go_at_call 243; refine (y2M (n + 90) _).mono ?_; rintro e w' ⟨rfl, hb⟩))
 go_ret;exact ⟨rfl, hb⟩
end

section
open Go.RowKit
namespace Cs
theorem y5a {w s : Int} (h1 : -500 <= w) (h2 : w <= 500) (h3 : 0 <= s) (h4 : s <= 200) : chainE w s = 0 := by
 unfold chainE chainOk;rw [if_pos (by simp; omega)]
theorem y31 {w s : Int} (h : ¬ (-500 <= w /\ w <= 500 /\ 0 <= s /\ s <= 200)) : chainE w s = 1 := by
 unfold chainE chainOk;rw [if_neg (by simpa using h)]
abbrev okC (c : Co) : Prop := (0 <= c.b /\ c.b <= 359) /\ (0 <= c.n /\ c.n <= 30) /\ (1 <= c.l /\ c.l <= 100000) /\ 1 <= c.y /\ c.y <= 3000
theorem y4N {c : Co} (h : okC c) : courseE c = chainE c.w c.s := by
 unfold courseE courseOk chainE;rw [decide_eq_true h];simp
theorem y4M {c : Co} (h : ¬ okC c) : courseE c = 1 := by
 unfold courseE courseOk;rw [decide_eq_false h];simp
end Cs
theorem y3j (a s : Int) (w : World) :
  Calls Tryz.prog 181 #[.agg #[.int .i64 a, .int .i64 s]] w fun e w' => e = .returned (.int .i64 (Cs.chainE a s)) /\ Below w.heap.size w w' := by
 have HB := jQ ((Below.refl w.heap.size w).alloc (Nat.le_refl _) (.cells #[.int .i64 a, .int .i64 s] 44));by_cases h : -500 <= a /\ a <= 500
 ·by_cases h2 : 0 <= s /\ s <= 200
  ·rw [Cs.y5a h.1 h.2 h2.1 h2.2];have d1 : decide (-500 <= a /\ a <= 500) = true := decide_eq_true h;have d2 : decide (0 <= s /\ s <= 200) = true := decide_eq_true h2;clear h h2;go_enter Tryz.func181, Tryz.ntmps181;go_wp2_with (go_at_call 127; refine (y0H _ _ _ _).mono ?_; (first | rw [d1] | rw [d2]); rintro e w' ⟨rfl, rfl⟩);go_ret;exact ⟨rfl, HB.o⟩
  rw [Cs.y31 (by omega)];have d1 : decide (-500 <= a /\ a <= 500) = true := decide_eq_true h;have d2 : decide (0 <= s /\ s <= 200) = false := decide_eq_false h2;clear h h2;go_enter Tryz.func181, Tryz.ntmps181;go_wp2_with (go_at_call 127; refine (y0H _ _ _ _).mono ?_; (first | rw [d1] | rw [d2]); rintro e w' ⟨rfl, rfl⟩);go_ret;exact ⟨rfl, HB.o⟩
 rw [Cs.y31 (by omega)];have d1 : decide (-500 <= a /\ a <= 500) = false := decide_eq_false h;clear h;go_enter Tryz.func181, Tryz.ntmps181;go_wp2_with (go_at_call 127; refine (y0H _ _ _ _).mono ?_; rw [d1]; rintro e w' ⟨rfl, rfl⟩);go_ret;exact ⟨rfl, HB.o⟩
theorem y3R (a s : Int) (w : World) :
  Calls Tryz.prog 182 #[.agg #[.int .i64 a, .int .i64 s]] w fun e w' => e = .returned (.int .i64 (Cs.chainE a s)) /\ Below w.heap.size w w' := by
 have HB := jQ ((Below.refl w.heap.size w).alloc (Nat.le_refl _) (.cells #[.int .i64 a, .int .i64 s] 44));by_cases h : -500 <= a /\ a <= 500 /\ 0 <= s /\ s <= 200
 ·obtain ⟨h1, h2, h3, h4⟩ := h;rw [Cs.y5a h1 h2 h3 h4];go_enter Tryz.func182, Tryz.ntmps182
  go_wp2
  go_ret;exact ⟨rfl, HB.o⟩
 rw [Cs.y31 h];have hc : a < -500 ∨ (-500 <= a /\ 500 < a) ∨ (-500 <= a /\ a <= 500 /\ s < 0) ∨ (-500 <= a /\ a <= 500 /\ 0 <= s /\ 200 < s) := by omega
 clear h;rcases hc with h1 | ⟨h1, h2⟩ | ⟨h1, h2, h3⟩ | ⟨h1, h2, h3, h4⟩
 all_goals
  go_enter Tryz.func182, Tryz.ntmps182
  go_wp2
  go_ret;exact ⟨rfl, HB.o⟩
theorem y1c (c : Cs.Co) (w : World) :
  Calls Tryz.prog 118 #[cval c] w fun e w' => e = .returned (.int .i64 (Cs.courseE c)) /\ Below w.heap.size w w' := by
 obtain ⟨b, n, l, y, a, s⟩ := c;have hB0 := (Below.refl w.heap.size w).alloc (Nat.le_refl _) (.cells #[.int .i64 b, .int .i64 n, .int .i64 l, .int .i64 y, .int .i64 a, .int .i64 s] 46);have HB := jQ hB0;clear hB0;show Calls Tryz.prog 118 #[.agg #[.int .i64 b, .int .i64 n, .int .i64 l, .int .i64 y, .int .i64 a, .int .i64 s]] w _;obtain ⟨x, hx⟩ := zE (Cs.courseE ⟨b, n, l, y, a, s⟩);rw [hx];by_cases h : Cs.okC ⟨b, n, l, y, a, s⟩
 ·rw [Cs.y4N h] at hx;obtain ⟨g1, g2, g3, g4⟩ := h;dsimp only at hx g1 g2 g3 g4;have d1 : decide (0 <= b /\ b <= 359) = true := decide_eq_true g1;have d2 : decide (0 <= n /\ n <= 30) = true := decide_eq_true g2;have d3 : decide (1 <= l /\ l <= 100000) = true := decide_eq_true g3;have d4 : decide (1 <= y /\ y <= 3000) = true := decide_eq_true g4;have hch := fun w => y3j a s w;rw [hx] at hch;have HC := jQ hch;clear g1 g2 g3 g4 hx hch;go_enter Tryz.func118, Tryz.ntmps118;go_wp2_with (first
   | (go_at_call 127; refine (y0H _ _ _ _).mono ?_; (first | rw [d1] | rw [d2] | rw [d3] | rw [d4]); rintro e w' ⟨rfl, rfl⟩)
   | (go_at_call 181; refine (HC.o _).mono ?_; rintro e w1 ⟨rfl, hb⟩))
  go_ret;exact ⟨rfl, HB.o.trans (hb.mono HB.o.size)⟩
 rw [Cs.y4M h] at hx;subst hx;unfold Cs.okC at h;dsimp only at h;by_cases g1 : 0 <= b /\ b <= 359
 ·have d1 : decide (0 <= b /\ b <= 359) = true := decide_eq_true g1;by_cases g2 : 0 <= n /\ n <= 30
  ·have d2 : decide (0 <= n /\ n <= 30) = true := decide_eq_true g2;by_cases g3 : 1 <= l /\ l <= 100000
   ·have d3 : decide (1 <= l /\ l <= 100000) = true := decide_eq_true g3;have d4 : decide (1 <= y /\ y <= 3000) = false := decide_eq_false (fun g4 => h ⟨g1, g2, g3, g4⟩);clear g1 g2 g3 h;go_enter Tryz.func118, Tryz.ntmps118;go_wp2_with (go_at_call 127; refine (y0H _ _ _ _).mono ?_; (first | rw [d1] | rw [d2] | rw [d3] | rw [d4]); rintro e w' ⟨rfl, rfl⟩);go_ret;exact ⟨rfl, HB.o⟩
   have d3 : decide (1 <= l /\ l <= 100000) = false := decide_eq_false g3;clear g1 g2 g3 h;go_enter Tryz.func118, Tryz.ntmps118;go_wp2_with (go_at_call 127; refine (y0H _ _ _ _).mono ?_; (first | rw [d1] | rw [d2] | rw [d3]); rintro e w' ⟨rfl, rfl⟩);go_ret;exact ⟨rfl, HB.o⟩
  have d2 : decide (0 <= n /\ n <= 30) = false := decide_eq_false g2;clear g1 g2 h;go_enter Tryz.func118, Tryz.ntmps118;go_wp2_with (go_at_call 127; refine (y0H _ _ _ _).mono ?_; (first | rw [d1] | rw [d2]); rintro e w' ⟨rfl, rfl⟩);go_ret;exact ⟨rfl, HB.o⟩
 have d1 : decide (0 <= b /\ b <= 359) = false := decide_eq_false g1;clear g1 h;go_enter Tryz.func118, Tryz.ntmps118;go_wp2_with (go_at_call 127; refine (y0H _ _ _ _).mono ?_; rw [d1]; rintro e w' ⟨rfl, rfl⟩);go_ret;exact ⟨rfl, HB.o⟩
theorem y1Y (c : Cs.Co) (w : World) :
  Calls Tryz.prog 120 #[cval c] w fun e w' => e = .returned (.int .i64 (Cs.courseE c)) /\ Below w.heap.size w w' := by
 obtain ⟨b, n, l, y, a, s⟩ := c;have hB0 := (Below.refl w.heap.size w).alloc (Nat.le_refl _) (.cells #[.int .i64 b, .int .i64 n, .int .i64 l, .int .i64 y, .int .i64 a, .int .i64 s] 46);have HB := jQ hB0;clear hB0;show Calls Tryz.prog 120 #[.agg #[.int .i64 b, .int .i64 n, .int .i64 l, .int .i64 y, .int .i64 a, .int .i64 s]] w _;obtain ⟨x, hx⟩ := zE (Cs.courseE ⟨b, n, l, y, a, s⟩);rw [hx];by_cases h : Cs.okC ⟨b, n, l, y, a, s⟩
 ·rw [Cs.y4N h] at hx;obtain ⟨⟨g1, g2⟩, ⟨g3, g4⟩, ⟨g5, g6⟩, g7, g8⟩ := h;dsimp only at hx g1 g2 g3 g4 g5 g6 g7 g8;have hch := fun w => y3R a s w;rw [hx] at hch;have HC := jQ hch;clear hx hch;go_enter Tryz.func120, Tryz.ntmps120;go_wp2_with (go_at_call 182; refine (HC.o _).mono ?_; rintro e w1 ⟨rfl, hb⟩);go_ret;exact ⟨rfl, HB.o.trans (hb.mono HB.o.size)⟩
 rw [Cs.y4M h] at hx;subst hx;unfold Cs.okC at h;dsimp only at h;have hc : b < 0 ∨ (0 <= b /\ 359 < b) ∨ (0 <= b /\ b <= 359 /\ n < 0) ∨ (0 <= b /\ b <= 359 /\ 0 <= n /\ 30 < n) ∨ (0 <= b /\ b <= 359 /\ 0 <= n /\ n <= 30 /\ l < 1) ∨ (0 <= b /\ b <= 359 /\ 0 <= n /\ n <= 30 /\ 1 <= l /\ 100000 < l) ∨
   (0 <= b /\ b <= 359 /\ 0 <= n /\ n <= 30 /\ 1 <= l /\ l <= 100000 /\ y < 1) ∨ (0 <= b /\ b <= 359 /\ 0 <= n /\ n <= 30 /\ 1 <= l /\ l <= 100000 /\ 1 <= y /\ 3000 < y) := by omega
 clear h;rcases hc with h1 | ⟨h1, h2⟩ | ⟨h1, h2, h3⟩ | ⟨h1, h2, h3, h4⟩ | ⟨h1, h2, h3, h4, h5⟩ | ⟨h1, h2, h3, h4, h5, h6⟩ | ⟨h1, h2, h3, h4, h5, h6, h7⟩ | ⟨h1, h2, h3, h4, h5, h6, h7, h8⟩
 all_goals
  go_enter Tryz.func120, Tryz.ntmps120
  go_wp2
  go_ret;exact ⟨rfl, HB.o⟩
end
end Go.Proofs.YtccikcpcfdjobaaGreatDoor
