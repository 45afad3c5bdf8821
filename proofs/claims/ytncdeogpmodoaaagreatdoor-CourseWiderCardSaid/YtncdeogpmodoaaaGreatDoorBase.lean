/-
  Words for memory that this seat's walks share: a slice that reads as a list of cells; a block that is known whole.
-/
import Derived.Below
import Derived.Laws.OwnMore
import Derived.WalkKit
import Derived.WalkSpells
import Derived.WalkLawsBesides
import Derived.Deep.QuietTactic
import Derived.BigQuiet
import Derived.Deep.LoopGhost
import Derived.Deep.DeepFit
import Derived.Deep.DeepMust
import Derived.Deep.RegionHeld3
import Derived.Deep.DeepCutAuto
import Derived.Laws.Rows
import Derived.Deep.AppendLies
import Derived.Sort.QuietIn
import Derived.Sort.LoopGhostIn
import Derived.Stop.RegionWithIn
import Derived.BigRegionIn
import Derived.Laws.Tables
import Derived.Deep.RegionLaw
import Derived.Deep.RegionWith
import Derived.StillTailTactics
import Derived.Lib.Hide
import Derived.RangeFuncNested
import Derived.RangeFuncBound
import Derived.RangeFuncCalls
import Derived.RangeFuncLeaves
import Derived.RangeFuncBox
import Derived.Shelf.Abstract
import Derived.Shelf.RegionOpen
import Derived.OwnWalkIn
import Derived.TacticsInMore
import Derived.LoopNIn
import Derived.LoopIn
import Derived.Maps.AppendAt
import Derived.Maps.OwnIn
import Derived.Test.YtncdeogpmodoaaaGreatDoorProg
import Derived.Test.YtncdeogpmodoaaaGreatDoorPure
set_option linter.unusedVariables false
set_option linter.unusedSimpArgs false
namespace Go.Proofs.YtncdeogpmodoaaaGreatDoor
open Go.RowKit

/-- The slice value '.slice A n c' holds the cells xs (size of them an element), in a block below B. -/
def Rd (w : World) (B size : Nat) (A : Option Addr) (n : Nat) (xs : List Value) : Prop :=
  xs.length = n * size ∧ (0 < n → ∃ b off, A = some ⟨b, off, none⟩ ∧ b < B ∧ ∀ j, j < n * size → w.cell? ⟨b, off + j, none⟩ = xs[j]?)

section
variable {w w' : World} {B B' size n : Nat} {A : Option Addr} {xs : List Value}

theorem Rd.keep (h : Rd w B size A n xs) (hk : ∀ b off, b < B → w'.cell? ⟨b, off, none⟩ = w.cell? ⟨b, off, none⟩) : Rd w' B size A n xs := by
  refine ⟨h.1, fun hn => ?_⟩
  obtain ⟨b, off, e, hb, hc⟩ := h.2 hn
  exact ⟨b, off, e, hb, fun j hj => (hk _ _ hb).trans (hc j hj)⟩
theorem Rd.more (h : Rd w B size A n xs) (hB : B ≤ B') : Rd w B' size A n xs := by
  refine ⟨h.1, fun hn => ?_⟩
  obtain ⟨b, off, e, hb, hc⟩ := h.2 hn
  exact ⟨b, off, e, by omega, hc⟩
theorem Rd.below (h : Rd w B size A n xs) {C : Nat} (hb : Below C w w') (hC : B ≤ C) : Rd w' B size A n xs :=
  h.keep fun b off hlt => hb.cell (p := ⟨b, off, none⟩) (Nat.lt_of_lt_of_le hlt hC)
theorem Rd.nil (w : World) (B size : Nat) (A : Option Addr) : Rd w B size A 0 [] := ⟨by simp, fun h => absurd h (by omega)⟩
end

theorem ret_bool {a b : Bool} (h : a = b) : Ending.returned (.bool a) = .returned (.bool b) := by rw [h]
theorem ret_int {a b : Int} (h : a = b) : Ending.returned (.int .i64 a) = .returned (.int .i64 b) := by rw [h]

/-- A variation's two cells. -/
def vcell (v : Int × Int) : List Value := [.int .i64 v.1, .int .i64 v.2]
def vcells (vs : List (Int × Int)) : List Value := vs.flatMap vcell
theorem vcells_length (vs : List (Int × Int)) : (vcells vs).length = vs.length * 2 := by
  induction vs with
  | nil => rfl
  | cons v vs ih =>
    rw [show vcells (v :: vs) = vcell v ++ vcells vs from rfl, List.length_append, ih]
    simp [vcell]
    omega
theorem vcells_at (vs : List (Int × Int)) {k : Nat} (hk : k < vs.length) :
    (vcells vs)[k * 2]? = some (.int .i64 vs[k].1) ∧ (vcells vs)[k * 2 + 1]? = some (.int .i64 vs[k].2) := by
  induction vs generalizing k with
  | nil => simp at hk
  | cons v vs ih =>
    rw [show vcells (v :: vs) = vcell v ++ vcells vs from rfl]
    cases k with
    | zero => simp [vcell]
    | succ k =>
      have h2 : (vcell v).length = 2 := rfl
      have := ih (k := k) (by simpa using hk)
      simp only [List.getElem_cons_succ]
      rw [List.getElem?_append_right (by omega), List.getElem?_append_right (by omega), h2, show (k + 1) * 2 - 2 = k * 2 from by omega, show (k + 1) * 2 + 1 - 2 = k * 2 + 1 from by omega]
      exact this

/-- The two cells of variation k, as a walk comes to them. -/
theorem Rd.var {w : World} {B : Nat} {A : Option Addr} {vs : List (Int × Int)} (h : Rd w B 2 A vs.length (vcells vs)) {k : Nat} (hk : k < vs.length) :
    ∃ b off, A = some ⟨b, off, none⟩ ∧ b < B ∧ w.cell? ⟨b, off + k * 2, none⟩ = some (.int .i64 vs[k].1) ∧ w.cell? ⟨b, off + k * 2 + 1, none⟩ = some (.int .i64 vs[k].2) := by
  obtain ⟨b, off, e, hb, hc⟩ := h.2 (by omega)
  obtain ⟨h0, h1⟩ := vcells_at vs hk
  refine ⟨b, off, e, hb, ?_, ?_⟩
  · rw [hc _ (by omega), h0]
  · rw [show off + k * 2 + 1 = off + (k * 2 + 1) from by omega, hc _ (by omega), h1]

/-- A course as a value, and its six cells. -/
def cval (c : Cs.Co) : Value := .agg #[.int .i64 c.b, .int .i64 c.n, .int .i64 c.l, .int .i64 c.y, .int .i64 c.w, .int .i64 c.s]
def ccell (c : Cs.Co) : List Value := [.int .i64 c.b, .int .i64 c.n, .int .i64 c.l, .int .i64 c.y, .int .i64 c.w, .int .i64 c.s]
def ccells (cs : List Cs.Co) : List Value := cs.flatMap ccell
theorem ccells_length (cs : List Cs.Co) : (ccells cs).length = cs.length * 6 := by
  induction cs with
  | nil => rfl
  | cons c cs ih =>
    rw [show ccells (c :: cs) = ccell c ++ ccells cs from rfl, List.length_append, ih]
    simp [ccell]
    omega
theorem ccells_at (cs : List Cs.Co) {k : Nat} (hk : k < cs.length) (j : Nat) (hj : j < 6) : (ccells cs)[k * 6 + j]? = (ccell cs[k])[j]? := by
  induction cs generalizing k with
  | nil => simp at hk
  | cons c cs ih =>
    rw [show ccells (c :: cs) = ccell c ++ ccells cs from rfl]
    have h6 : (ccell c).length = 6 := rfl
    cases k with
    | zero =>
      rw [List.getElem?_append_left (by omega)]
      simp
    | succ k =>
      have := ih (k := k) (by simpa using hk)
      rw [List.getElem?_append_right (by omega), h6, show (k + 1) * 6 + j - 6 = k * 6 + j from by omega]
      simpa using this

/-- The six cells of course k, as a walk comes to them. -/
theorem Rd.course {w : World} {B : Nat} {A : Option Addr} {cs : List Cs.Co} (h : Rd w B 6 A cs.length (ccells cs)) {k : Nat} (hk : k < cs.length) :
    ∃ b off, A = some ⟨b, off, none⟩ ∧ b < B ∧ w.cell? ⟨b, off + k * 6, none⟩ = some (.int .i64 cs[k].b) ∧ w.cell? ⟨b, off + k * 6 + 1, none⟩ = some (.int .i64 cs[k].n) ∧
      w.cell? ⟨b, off + k * 6 + 2, none⟩ = some (.int .i64 cs[k].l) ∧ w.cell? ⟨b, off + k * 6 + 3, none⟩ = some (.int .i64 cs[k].y) ∧ w.cell? ⟨b, off + k * 6 + 4, none⟩ = some (.int .i64 cs[k].w) ∧
      w.cell? ⟨b, off + k * 6 + 5, none⟩ = some (.int .i64 cs[k].s) := by
  obtain ⟨b, off, e, hb, hc⟩ := h.2 (by omega)
  have hat := fun j hj => ccells_at cs hk j hj
  refine ⟨b, off, e, hb, ?_, ?_, ?_, ?_, ?_, ?_⟩
  · rw [hc _ (by omega)]; exact hat 0 (by decide)
  · rw [show off + k * 6 + 1 = off + (k * 6 + 1) from by omega, hc _ (by omega)]; exact hat 1 (by decide)
  · rw [show off + k * 6 + 2 = off + (k * 6 + 2) from by omega, hc _ (by omega)]; exact hat 2 (by decide)
  · rw [show off + k * 6 + 3 = off + (k * 6 + 3) from by omega, hc _ (by omega)]; exact hat 3 (by decide)
  · rw [show off + k * 6 + 4 = off + (k * 6 + 4) from by omega, hc _ (by omega)]; exact hat 4 (by decide)
  · rw [show off + k * 6 + 5 = off + (k * 6 + 5) from by omega, hc _ (by omega)]; exact hat 5 (by decide)

/-- A block that is known whole, none of it frozen. -/
def Bk (w : World) (g : Nat) (t : TypeId) (cs : Array Value) : Prop := w.heap[g]? = some (.cells cs t (0, 0))

section
variable {w w' : World} {g : Nat} {t : TypeId} {cs : Array Value}
theorem Bk.lt (h : Bk w g t cs) : g < w.heap.size := (Array.getElem?_eq_some_iff.1 h).1
theorem Bk.cell (h : Bk w g t cs) (i : Nat) : w.cell? ⟨g, i, none⟩ = cs[i]? := by
  unfold Bk at h
  simp [World.cell?, h]
theorem Bk.frozen (h : Bk w g t cs) (i : Nat) : w.frozen? ⟨g, i, none⟩ = false := by
  unfold Bk at h
  simp [World.frozen?, h]
theorem Bk.new (w : World) (t : TypeId) (cs : Array Value) : Bk (w.alloc (.cells cs t)) w.heap.size t cs := World.alloc_heap_new w _
theorem Bk.alloc (h : Bk w g t cs) (o : Obj) : Bk (w.alloc o) g t cs := (Below.heap_alloc w o g h.lt).trans h
theorem Bk.below {C : Nat} (h : Bk w g t cs) (hb : Below C w w') (hg : g < C) : Bk w' g t cs := (hb.block g hg).trans h
theorem Bk.set (h : Bk w g t cs) (i : Nat) (u : Value) : Bk (w.setCell ⟨g, i, none⟩ u) g t (cs.setIfInBounds i u) := by
  unfold Bk at h ⊢
  simp [World.setCell, Array.getElem?_modify, h]
theorem Bk.far (h : Bk w g t cs) {p : Addr} (hp : g ≠ p.block) (u : Value) : Bk (w.setCell p u) g t cs := (Below.heap_setCell w p u g hp).trans h
end

theorem Bk.below_set {w w' : World} {g : Nat} {t : TypeId} {cs : Array Value} {C : Nat} (h : Bk w g t cs) (hC : C ≤ g) (cs' : Array Value) (hb : Below C w' w) : Below C w' (w.setRow g cs') := by
  refine hb.trans ⟨rfl, rfl, rfl, by simp [World.setRow], fun k hk => ?_⟩
  simp only [World.setRow, Array.getElem?_modify]
  rw [if_neg (by omega)]
theorem Bk.row {w : World} {g : Nat} {t : TypeId} {cs : Array Value} (h : Bk w g t cs) (cs' : Array Value) : Bk (w.setRow g cs') g t cs' := setRow_heap w g cs cs' t (0, 0) h
theorem Bk.row_far {w : World} {g k : Nat} {t : TypeId} {cs : Array Value} (h : Bk w g t cs) (hk : g ≠ k) (cs' : Array Value) : Bk (w.setRow k cs') g t cs := by
  unfold Bk at h ⊢
  simp only [World.setRow, Array.getElem?_modify]
  rw [if_neg (by omega)]
  exact h
theorem size_setRow (w : World) (g : Nat) (cs : Array Value) : (w.setRow g cs).heap.size = w.heap.size := by simp [World.setRow]
theorem size_setCell (w : World) (a : Addr) (u : Value) : (w.setCell a u).heap.size = w.heap.size := by simp [World.setCell]

/-- Below block M the world w' is as w was, but for the blocks of X. -/
structure KeepX (M : Nat) (X : Nat → Prop) (w w' : World) : Prop where
  os : w'.os = w.os
  tape : w'.tape = w.tape
  output : w'.output = w.output
  size : w.heap.size ≤ w'.heap.size
  block : ∀ k, k < M → ¬ X k → w'.heap[k]? = w.heap[k]?

section
variable {M : Nat} {X : Nat → Prop} {a w w' : World}
theorem KeepX.refl (M : Nat) (X : Nat → Prop) (w : World) : KeepX M X w w := ⟨rfl, rfl, rfl, Nat.le_refl _, fun _ _ _ => rfl⟩
theorem KeepX.trans {c : World} (h : KeepX M X a w) (k : KeepX M X w c) : KeepX M X a c :=
  ⟨k.os.trans h.os, k.tape.trans h.tape, k.output.trans h.output, Nat.le_trans h.size k.size, fun i hi hx => (k.block i hi hx).trans (h.block i hi hx)⟩
theorem KeepX.mono {M' : Nat} {X' : Nat → Prop} (h : KeepX M X w w') (hM : M' ≤ M) (hX : ∀ k, k < M' → X k → X' k) : KeepX M' X' w w' :=
  ⟨h.os, h.tape, h.output, h.size, fun k hk hx => h.block k (Nat.lt_of_lt_of_le hk hM) (fun e => hx (hX k hk e))⟩
theorem KeepX.of_below (h : Below M w w') (X : Nat → Prop) : KeepX M X w w' := ⟨h.os, h.tape, h.output, h.size, fun k hk _ => h.block k hk⟩
theorem KeepX.below (h : KeepX M X w w') {B : Nat} (hB : B ≤ M) (hX : ∀ k, k < B → ¬ X k) : Below B w w' :=
  ⟨h.os, h.tape, h.output, h.size, fun k hk => h.block k (Nat.lt_of_lt_of_le hk hB) (hX k hk)⟩
theorem KeepX.of_grown {row : Option Nat} (h : w.grownBy w' row) (hM : M ≤ w.heap.size) (hr : ∀ k, row = some k → k < M → X k) : KeepX M X w w' :=
  ⟨h.os, h.tape, h.output, h.size, fun k hk hx => h.block k (by omega) (fun e => hx (hr k e.symm hk))⟩
theorem KeepX.alloc (h : KeepX M X a w) (hM : M ≤ w.heap.size) (o : Obj) : KeepX M X a (w.alloc o) :=
  h.trans (.of_grown (World.grownBy_alloc w o none) hM (fun k e => by cases e))
theorem KeepX.drew (h : KeepX M X a w) : KeepX M X a w.drew := ⟨h.os, h.tape, h.output, h.size, h.block⟩
theorem KeepX.drewN (h : KeepX M X a w) (n : Nat) : KeepX M X a (w.drewN n) := ⟨h.os, h.tape, h.output, h.size, h.block⟩
theorem KeepX.setCell (h : KeepX M X a w) {p : Addr} (hp : p.block < M → X p.block) (u : Value) : KeepX M X a (w.setCell p u) :=
  h.trans ⟨rfl, rfl, rfl, by simp [World.setCell], fun k hk hx => Below.heap_setCell _ _ _ _ (fun e => hx (by rw [e]; exact hp (by omega)))⟩
theorem KeepX.setRow (h : KeepX M X a w) {g : Nat} (hp : g < M → X g) (cs : Array Value) : KeepX M X a (w.setRow g cs) := by
  refine h.trans ⟨rfl, rfl, rfl, by simp [World.setRow], fun k hk hx => ?_⟩
  simp only [World.setRow, Array.getElem?_modify]
  rw [if_neg (fun e => hx (by rw [← e]; exact hp (by omega)))]
theorem KeepX.bk (h : KeepX M X w w') {g : Nat} {t : TypeId} {cs : Array Value} (hb : Bk w g t cs) (hg : g < M) (hx : ¬ X g) : Bk w' g t cs := (h.block g hg hx).trans hb
end

theorem fz_alloc {w : World} {a : Addr} (o : Obj) (h : w.frozen? a = false) (hl : a.block < w.heap.size) : (w.alloc o).frozen? a = false :=
  (World.frozen?_of_block (Below.heap_alloc w o a.block hl)).trans h

end Go.Proofs.YtncdeogpmodoaaaGreatDoor
