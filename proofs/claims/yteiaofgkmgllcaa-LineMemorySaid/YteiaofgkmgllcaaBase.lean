/-
  Words for memory that this seat's walks share: a slice that reads as a list of cells; a block that is known whole.
-/
import Derived.Below
import Derived.Laws.OwnMore
import Derived.WalkKit
import Derived.WalkSpells
import Derived.WalkLawsBesides
import Derived.Deep.QuietTactic
import Derived.BigQuiet
import Derived.Deep.LoopGhost
import Derived.Deep.DeepFit
import Derived.Deep.DeepMust
import Derived.Deep.RegionHeld3
import Derived.Deep.DeepCutAuto
import Derived.Laws.Rows
import Derived.Deep.AppendLies
import Derived.Sort.QuietIn
import Derived.Sort.LoopGhostIn
import Derived.Stop.RegionWithIn
import Derived.BigRegionIn
import Derived.Laws.Tables
import Derived.Deep.RegionLaw
import Derived.Deep.RegionWith
import Derived.StillTailTactics
import Derived.Lib.Hide
import Derived.RangeFuncNested
import Derived.RangeFuncBound
import Derived.RangeFuncCalls
import Derived.RangeFuncLeaves
import Derived.RangeFuncBox
import Derived.Shelf.Abstract
import Derived.Shelf.RegionOpen
import Derived.OwnWalkIn
import Derived.TacticsInMore
import Derived.LoopNIn
import Derived.LoopIn
import Derived.Maps.AppendAt
import Derived.Maps.OwnIn
import Derived.Test.YteiaofgkmgllcaaProg
import Derived.Test.YteiaofgkmgllcaaMath
set_option linter.unusedVariables false
set_option linter.unusedSimpArgs false
namespace Go.Proofs.Yteiaofgkmgllcaa
open Go.RowKit

/-- The slice value '.slice A n c' holds the cells xs (size of them an element), in a block below B. -/
def Rd (w : World) (B size : Nat) (A : Option Addr) (n : Nat) (xs : List Value) : Prop :=
  xs.length = n * size ∧ (0 < n → ∃ b off, A = some ⟨b, off, none⟩ ∧ b < B ∧ ∀ j, j < n * size → w.cell? ⟨b, off + j, none⟩ = xs[j]?)

section
variable {w w' : World} {B B' size n : Nat} {A : Option Addr} {xs : List Value}

theorem Rd.keep (h : Rd w B size A n xs) (hk : ∀ b off, b < B → w'.cell? ⟨b, off, none⟩ = w.cell? ⟨b, off, none⟩) : Rd w' B size A n xs := by
  refine ⟨h.1, fun hn => ?_⟩
  obtain ⟨b, off, e, hb, hc⟩ := h.2 hn
  exact ⟨b, off, e, hb, fun j hj => (hk _ _ hb).trans (hc j hj)⟩
theorem Rd.more (h : Rd w B size A n xs) (hB : B ≤ B') : Rd w B' size A n xs := by
  refine ⟨h.1, fun hn => ?_⟩
  obtain ⟨b, off, e, hb, hc⟩ := h.2 hn
  exact ⟨b, off, e, by omega, hc⟩
theorem Rd.below (h : Rd w B size A n xs) {C : Nat} (hb : Below C w w') (hC : B ≤ C) : Rd w' B size A n xs :=
  h.keep fun b off hlt => hb.cell (p := ⟨b, off, none⟩) (Nat.lt_of_lt_of_le hlt hC)
theorem Rd.nil (w : World) (B size : Nat) (A : Option Addr) : Rd w B size A 0 [] := ⟨by simp, fun h => absurd h (by omega)⟩
end

theorem ret_bool {a b : Bool} (h : a = b) : Ending.returned (.bool a) = .returned (.bool b) := by rw [h]
theorem ret_int {a b : Int} (h : a = b) : Ending.returned (.int .i64 a) = .returned (.int .i64 b) := by rw [h]

/-- A bound's four cells. -/
def bcell (b : Ln.Bd) : List Value := [.int .i64 b.f, .int .i64 b.t, .int .i64 b.m, .int .i64 b.r]
def bcells (bs : List Ln.Bd) : List Value := bs.flatMap bcell
def bval (b : Ln.Bd) : Value := .agg #[.int .i64 b.f, .int .i64 b.t, .int .i64 b.m, .int .i64 b.r]

theorem bcells_length (bs : List Ln.Bd) : (bcells bs).length = bs.length * 4 := by
  induction bs with
  | nil => rfl
  | cons b bs ih =>
    rw [show bcells (b :: bs) = bcell b ++ bcells bs from rfl, List.length_append, ih]
    simp [bcell]
    omega

theorem bcells_at (bs : List Ln.Bd) {k : Nat} (hk : k < bs.length) :
    (bcells bs)[k * 4]? = some (.int .i64 bs[k].f) ∧ (bcells bs)[k * 4 + 1]? = some (.int .i64 bs[k].t) ∧ (bcells bs)[k * 4 + 2]? = some (.int .i64 bs[k].m) ∧ (bcells bs)[k * 4 + 3]? = some (.int .i64 bs[k].r) := by
  induction bs generalizing k with
  | nil => simp at hk
  | cons b bs ih =>
    rw [show bcells (b :: bs) = bcell b ++ bcells bs from rfl]
    cases k with
    | zero => simp [bcell]
    | succ k =>
      have h4 : (bcell b).length = 4 := rfl
      have := ih (k := k) (by simpa using hk)
      simp only [List.getElem_cons_succ]
      rw [List.getElem?_append_right (by omega), List.getElem?_append_right (by omega), List.getElem?_append_right (by omega), List.getElem?_append_right (by omega), h4,
        show (k + 1) * 4 - 4 = k * 4 from by omega, show (k + 1) * 4 + 1 - 4 = k * 4 + 1 from by omega, show (k + 1) * 4 + 2 - 4 = k * 4 + 2 from by omega, show (k + 1) * 4 + 3 - 4 = k * 4 + 3 from by omega]
      exact this

/-- The four cells of bound k, as a walk comes to them. -/
theorem Rd.bound {w : World} {B : Nat} {A : Option Addr} {bs : List Ln.Bd} (h : Rd w B 4 A bs.length (bcells bs)) {k : Nat} (hk : k < bs.length) :
    ∃ b off, A = some ⟨b, off, none⟩ ∧ b < B ∧ w.cell? ⟨b, off + k * 4, none⟩ = some (.int .i64 bs[k].f) ∧ w.cell? ⟨b, off + k * 4 + 1, none⟩ = some (.int .i64 bs[k].t) ∧
      w.cell? ⟨b, off + k * 4 + 2, none⟩ = some (.int .i64 bs[k].m) ∧ w.cell? ⟨b, off + k * 4 + 3, none⟩ = some (.int .i64 bs[k].r) := by
  obtain ⟨b, off, e, hb, hc⟩ := h.2 (by omega)
  obtain ⟨h0, h1, h2, h3⟩ := bcells_at bs hk
  refine ⟨b, off, e, hb, ?_, ?_, ?_, ?_⟩
  · rw [hc _ (by omega), h0]
  · rw [show off + k * 4 + 1 = off + (k * 4 + 1) from by omega, hc _ (by omega), h1]
  · rw [show off + k * 4 + 2 = off + (k * 4 + 2) from by omega, hc _ (by omega), h2]
  · rw [show off + k * 4 + 3 = off + (k * 4 + 3) from by omega, hc _ (by omega), h3]

/-- A block that is known whole, none of it frozen. -/
def Bk (w : World) (g : Nat) (t : TypeId) (cs : Array Value) : Prop := w.heap[g]? = some (.cells cs t (0, 0))

section
variable {w w' : World} {g : Nat} {t : TypeId} {cs : Array Value}
theorem Bk.lt (h : Bk w g t cs) : g < w.heap.size := (Array.getElem?_eq_some_iff.1 h).1
theorem Bk.cell (h : Bk w g t cs) (i : Nat) : w.cell? ⟨g, i, none⟩ = cs[i]? := by
  unfold Bk at h
  simp [World.cell?, h]
theorem Bk.frozen (h : Bk w g t cs) (i : Nat) : w.frozen? ⟨g, i, none⟩ = false := by
  unfold Bk at h
  simp [World.frozen?, h]
theorem Bk.new (w : World) (t : TypeId) (cs : Array Value) : Bk (w.alloc (.cells cs t)) w.heap.size t cs := World.alloc_heap_new w _
theorem Bk.alloc (h : Bk w g t cs) (o : Obj) : Bk (w.alloc o) g t cs := (Below.heap_alloc w o g h.lt).trans h
theorem Bk.below {C : Nat} (h : Bk w g t cs) (hb : Below C w w') (hg : g < C) : Bk w' g t cs := (hb.block g hg).trans h
theorem Bk.set (h : Bk w g t cs) (i : Nat) (u : Value) : Bk (w.setCell ⟨g, i, none⟩ u) g t (cs.setIfInBounds i u) := by
  unfold Bk at h ⊢
  simp [World.setCell, Array.getElem?_modify, h]
theorem Bk.far (h : Bk w g t cs) {p : Addr} (hp : g ≠ p.block) (u : Value) : Bk (w.setCell p u) g t cs := (Below.heap_setCell w p u g hp).trans h
end

theorem Bk.below_set {w w' : World} {g : Nat} {t : TypeId} {cs : Array Value} {C : Nat} (h : Bk w g t cs) (hC : C ≤ g) (cs' : Array Value) (hb : Below C w' w) : Below C w' (w.setRow g cs') := by
  refine hb.trans ⟨rfl, rfl, rfl, by simp [World.setRow], fun k hk => ?_⟩
  simp only [World.setRow, Array.getElem?_modify]
  rw [if_neg (by omega)]
theorem Bk.row {w : World} {g : Nat} {t : TypeId} {cs : Array Value} (h : Bk w g t cs) (cs' : Array Value) : Bk (w.setRow g cs') g t cs' := setRow_heap w g cs cs' t (0, 0) h
theorem Bk.row_far {w : World} {g k : Nat} {t : TypeId} {cs : Array Value} (h : Bk w g t cs) (hk : g ≠ k) (cs' : Array Value) : Bk (w.setRow k cs') g t cs := by
  unfold Bk at h ⊢
  simp only [World.setRow, Array.getElem?_modify]
  rw [if_neg (by omega)]
  exact h
theorem size_setRow (w : World) (g : Nat) (cs : Array Value) : (w.setRow g cs).heap.size = w.heap.size := by simp [World.setRow]
theorem size_setCell (w : World) (a : Addr) (u : Value) : (w.setCell a u).heap.size = w.heap.size := by simp [World.setCell]

/-- Below block M the world w' is as w was, but for the blocks of X. -/
structure KeepX (M : Nat) (X : Nat → Prop) (w w' : World) : Prop where
  os : w'.os = w.os
  tape : w'.tape = w.tape
  output : w'.output = w.output
  size : w.heap.size ≤ w'.heap.size
  block : ∀ k, k < M → ¬ X k → w'.heap[k]? = w.heap[k]?

section
variable {M : Nat} {X : Nat → Prop} {a w w' : World}
theorem KeepX.refl (M : Nat) (X : Nat → Prop) (w : World) : KeepX M X w w := ⟨rfl, rfl, rfl, Nat.le_refl _, fun _ _ _ => rfl⟩
theorem KeepX.trans {c : World} (h : KeepX M X a w) (k : KeepX M X w c) : KeepX M X a c :=
  ⟨k.os.trans h.os, k.tape.trans h.tape, k.output.trans h.output, Nat.le_trans h.size k.size, fun i hi hx => (k.block i hi hx).trans (h.block i hi hx)⟩
theorem KeepX.mono {M' : Nat} {X' : Nat → Prop} (h : KeepX M X w w') (hM : M' ≤ M) (hX : ∀ k, k < M' → X k → X' k) : KeepX M' X' w w' :=
  ⟨h.os, h.tape, h.output, h.size, fun k hk hx => h.block k (Nat.lt_of_lt_of_le hk hM) (fun e => hx (hX k hk e))⟩
theorem KeepX.of_below (h : Below M w w') (X : Nat → Prop) : KeepX M X w w' := ⟨h.os, h.tape, h.output, h.size, fun k hk _ => h.block k hk⟩
theorem KeepX.below (h : KeepX M X w w') {B : Nat} (hB : B ≤ M) (hX : ∀ k, k < B → ¬ X k) : Below B w w' :=
  ⟨h.os, h.tape, h.output, h.size, fun k hk => h.block k (Nat.lt_of_lt_of_le hk hB) (hX k hk)⟩
theorem KeepX.of_grown {row : Option Nat} (h : w.grownBy w' row) (hM : M ≤ w.heap.size) (hr : ∀ k, row = some k → k < M → X k) : KeepX M X w w' :=
  ⟨h.os, h.tape, h.output, h.size, fun k hk hx => h.block k (by omega) (fun e => hx (hr k e.symm hk))⟩
theorem KeepX.alloc (h : KeepX M X a w) (hM : M ≤ w.heap.size) (o : Obj) : KeepX M X a (w.alloc o) :=
  h.trans (.of_grown (World.grownBy_alloc w o none) hM (fun k e => by cases e))
theorem KeepX.drew (h : KeepX M X a w) : KeepX M X a w.drew := ⟨h.os, h.tape, h.output, h.size, h.block⟩
theorem KeepX.drewN (h : KeepX M X a w) (n : Nat) : KeepX M X a (w.drewN n) := ⟨h.os, h.tape, h.output, h.size, h.block⟩
theorem KeepX.setCell (h : KeepX M X a w) {p : Addr} (hp : p.block < M → X p.block) (u : Value) : KeepX M X a (w.setCell p u) :=
  h.trans ⟨rfl, rfl, rfl, by simp [World.setCell], fun k hk hx => Below.heap_setCell _ _ _ _ (fun e => hx (by rw [e]; exact hp (by omega)))⟩
theorem KeepX.setRow (h : KeepX M X a w) {g : Nat} (hp : g < M → X g) (cs : Array Value) : KeepX M X a (w.setRow g cs) := by
  refine h.trans ⟨rfl, rfl, rfl, by simp [World.setRow], fun k hk hx => ?_⟩
  simp only [World.setRow, Array.getElem?_modify]
  rw [if_neg (fun e => hx (by rw [← e]; exact hp (by omega)))]
theorem KeepX.bk (h : KeepX M X w w') {g : Nat} {t : TypeId} {cs : Array Value} (hb : Bk w g t cs) (hg : g < M) (hx : ¬ X g) : Bk w' g t cs := (h.block g hg hx).trans hb
end

theorem fz_alloc {w : World} {a : Addr} (o : Obj) (h : w.frozen? a = false) (hl : a.block < w.heap.size) : (w.alloc o).frozen? a = false :=
  (World.frozen?_of_block (Below.heap_alloc w o a.block hl)).trans h

/-- A list of numbers as an array's cells. -/
def av (d : List Int) : Array Value := (d.map (Value.int .i64)).toArray
theorem av_size (d : List Int) : (av d).size = d.length := by simp [av]
theorem av_at {d : List Int} {k : Nat} (hk : k < d.length) : (av d)[k]? = some (.int .i64 (Ln.gt d k)) := by
  rw [Ln.gt_eq hk]
  simp [av, hk]
theorem av_set (d : List Int) (k : Nat) (x : Int) : (av d).setIfInBounds k (.int .i64 x) = av (d.set k x) := by
  apply Array.ext_getElem?
  intro i
  simp [av, Array.getElem?_setIfInBounds, List.getElem?_set]
theorem av_one (d : List Int) : (av d).all (·.oneCell') = true := by
  rw [Array.all_eq_true_iff_forall_mem]
  intro v hv
  simp [av] at hv
  obtain ⟨x, _, rfl⟩ := hv
  rfl

theorem zero94 : Try.zeroCells89 = av Ln.zeros := by kernel_rfl
theorem size94 : (Try.prog.info? 89).map (·.size) = some 128 := by kernel_rfl

end Go.Proofs.Yteiaofgkmgllcaa
