/-
  What the claim needs: contracts.
-/
import Derived.Lib.ConvBytes
import Derived.Lib.SmallJoins
import Derived.Lib.IndexBytes
import Derived.Lib.IndexMore
import Derived.Test.YtccikcpcfdjobaaGreatDoorBs05
set_option linter.unusedVariables false
set_option linter.unusedSimpArgs false
set_option maxHeartbeats 8000000
set_option maxRecDepth 100000
namespace Go.Proofs.YtccikcpcfdjobaaGreatDoor
section
open Go.RowKit
structure But (X : Nat -> Prop) (w w' : World) : Prop where
 os : w'.os = w.os
 tape : w'.tape = w.tape
 output : w'.output = w.output
 size : w.heap.size <= w'.heap.size
 block : ∀ k, k < w.heap.size -> ¬ X k -> w'.heap[k]? = w.heap[k]?
section
variable {X Y : Nat -> Prop} {w w' w'' : World}
theorem But.refl (X : Nat -> Prop) (w : World) : But X w w := ⟨rfl, rfl, rfl, Nat.le_refl _, fun _ _ _ => rfl⟩
theorem But.trans (h : But X w w') (k : But X w' w'') : But X w w'' :=
 ⟨k.os.trans h.os, k.tape.trans h.tape, k.output.trans h.output, Nat.le_trans h.size k.size, fun i hi hx => (k.block i (Nat.lt_of_lt_of_le hi h.size) hx).trans (h.block i hi hx)⟩
theorem But.of (h : Below w.heap.size w w') : But X w w' := ⟨h.os, h.tape, h.output, h.size, fun k hk _ => h.block k hk⟩
theorem But.mono (h : But X w w') (hx : ∀ k, X k -> Y k) : But Y w w' := ⟨h.os, h.tape, h.output, h.size, fun k hk hy => h.block k hk (fun e => hy (hx k e))⟩
theorem But.set (h : But X w w') {p : Addr} (hp : X p.block) (u : Value) : But X w (w'.setCell p u) :=
 h.trans ⟨rfl, rfl, rfl, by simp [World.setCell], fun k hk hx => Below.heap_setCell _ _ _ _ (fun e => hx (e ▸ hp))⟩
theorem But.drew (h : But X w w') : But X w w'.drew := ⟨h.os, h.tape, h.output, h.size, h.block⟩
theorem But.below (h : But X w w') {B : Nat} (hX : ∀ k, X k -> B <= k) (hB : B <= w.heap.size) : Below B w w' :=
 ⟨h.os, h.tape, h.output, h.size, fun k hk => h.block k (by omega) (fun e => by have := hX k e; omega)⟩
theorem But.back {a : World} {B : Nat} (h : Below B a w) (k : But X w w') (hX : ∀ k, X k -> B <= k) (hB : B <= w.heap.size) : Below B a w' := h.trans (k.below hX hB)
theorem But.bk {g : Nat} {t : TypeId} {cs : Array Value} (h : But X w w') (hk : Bk w g t cs) (hx : ¬ X g) : Bk w' g t cs := (h.block g hk.lt hx).trans hk
theorem But.rd {B size n : Nat} {A : Option Addr} {xs : List Value} (h : But X w w') (hr : Rd w B size A n xs) (hB : B <= w.heap.size) (hX : ∀ k, k < B -> ¬ X k) : Rd w' B size A n xs :=
 hr.keep fun b off hb => World.cell?_of_block (w := w) (h.block b (by omega) (hX b hb))
end
theorem Rd.setc {w : World} {B size n : Nat} {A : Option Addr} {xs : List Value} (h : Rd w B size A n xs) {p : Addr} (hp : B <= p.block) (u : Value) : Rd (w.setCell p u) B size A n xs :=
 h.keep fun k off hk => World.cell?_of_block (Below.heap_setCell w p u k (by omega))
theorem Rd.keep' {X : Nat -> Prop} {w w' : World} {B size n b o : Nat} {xs : List Value} (h : Rd w B size (some ⟨b, o, none⟩) n xs) (hb : But X w w') (hx : b < w.heap.size -> ¬ X b) : Rd w' B size (some ⟨b, o, none⟩) n xs := by
 refine ⟨h.1, fun hn => ?_⟩;obtain ⟨b', o', e, hlt, hc⟩ := h.2 hn;obtain ⟨rfl, rfl⟩ : b = b' /\ o = o' := by simpa using e
 refine ⟨_, _, rfl, hlt, fun j hj => ?_⟩;rw [<- hc j hj];by_cases hbw : b < w.heap.size
 ·exact World.cell?_of_block (w := w) (hb.block b hbw (hx hbw))
 have hj' : j < xs.length := by rw [h.1]; exact hj
 have h1 := hc j hj;rw [List.getElem?_eq_getElem hj'] at h1;exact absurd (World.block_lt_of_cell? w _ h1) hbw
theorem But.row {X : Nat -> Prop} {w w' : World} (h : But X w w') {g : Nat} (hg : X g) (cs : Array Value) : But X w (w'.setRow g cs) :=
 ⟨h.os, h.tape, h.output, by rw [y3X]; exact h.size, fun k hk hx => by
  have hne : g ≠ k := fun e => hx (e ▸ hg);simp only [World.setRow, Array.getElem?_modify];rw [if_neg hne];exact h.block k hk hx⟩
theorem Below.rowNew {B : Nat} {a w : World} (h : Below B a w) {g : Nat} (hg : B <= g) (cs : Array Value) : Below B a (w.setRow g cs) :=
 h.trans ⟨rfl, rfl, rfl, by simp [World.setRow], fun k hk => by
  simp only [World.setRow, Array.getElem?_modify];rw [if_neg (by omega)]⟩
end

section
namespace Dd
def nextW : List Bs -> Option (Bs × List Bs)
 | [] => none
 | x :: r => some (x, r)
def nameW : List Bs -> Option (Bs × List Bs)
 | [] => none
 | x :: r => if nameF x then some (x, r) else none
def sgnW : List Bs -> Option (Int × List Bs)
 | [] => none
 | x :: r => match sgnF x with | some n => some (n, r) | none => none
def nnW : List Bs -> Option (Int × List Bs)
 | [] => none
 | x :: r => match nnF x with | some n => some (n, r) | none => none
def fixW (k : Bs) : List Bs -> Option (Unit × List Bs)
 | [] => none
 | x :: r => if x = k then some ((), r) else none
def lenW (k : Bs) (l : List Bs) : Option (Int × List Bs) :=
 match upTo k l with
 | none => none
 | some p => if (Cs.lnkF p.1).2 = 0 /\ 1 <= (Cs.lnkF p.1).1 /\ (Cs.lnkF p.1).1 <= 100000 then some ((Cs.lnkF p.1).1, p.2) else none
def berW (k : Bs) (l : List Bs) : Option (Int × List Bs) :=
 match upTo k l with
 | none => none
 | some p => if (Cs.berF p.1).2 = 0 then some ((Cs.berF p.1).1, p.2) else none
def endW : List Bs -> Option (Unit × List Bs)
 | [] => some ((), [])
 | _ :: _ => none
def stoneM (l : List Bs) : Option (Dr × List Bs) :=
 (nameW l).bind fun a => (nameW a.2).bind fun b => (nnW b.2).bind fun x => (nnW x.2).bind fun y =>
  some (⟨a.1, [], b.1, [], { ca0 with k := 1, s := x.1, e := y.1 }⟩, y.2)
def widthM (l : List Bs) : Option (Dr × List Bs) :=
 (nameW l).bind fun a => (nameW a.2).bind fun o => (nameW o.2).bind fun b => (nnW b.2).bind fun x => (nnW x.2).bind fun y =>
  some (⟨a.1, o.1, b.1, [], { ca0 with k := 2, s := x.1, e := y.1 }⟩, y.2)
def courseM (l : List Bs) : Option (Dr × List Bs) :=
 (nameW l).bind fun a => (nameW a.2).bind fun b => (nameW b.2).bind fun c => (lenW kBy c.2).bind fun n => (berW kGive n.2).bind fun d =>
  (nnW d.2).bind fun e => (fixW kWear e.2).bind fun f => (sgnW f.2).bind fun g => (fixW kSlack g.2).bind fun h => (nnW h.2).bind fun i =>
  some (⟨a.1, [], b.1, c.1, { ca0 with k := 3, c := ⟨d.1, e.1, n.1, 0, g.1, i.1⟩ }⟩, i.2)
def alongM (l : List Bs) : Option (Dr × List Bs) :=
 (nameW l).bind fun a => (nameW a.2).bind fun o => (nameW o.2).bind fun b => (nameW b.2).bind fun c =>
  some (⟨a.1, o.1, b.1, c.1, { ca0 with k := 4 }⟩, c.2)
def levelM (l : List Bs) : Option (Dr × List Bs) :=
 (nameW l).bind fun a => (nameW a.2).bind fun b => (nameW b.2).bind fun c => (sgnW c.2).bind fun x => (nnW x.2).bind fun y =>
  some (⟨a.1, [], b.1, c.1, { ca0 with k := 5, s := x.1, e := y.1 }⟩, y.2)
def fin {α : Type} (r : Option (α × List Bs)) : Option α := r.bind fun p => (endW p.2).bind fun _ => some p.1
theorem yAj (l : List Bs) : fin (stoneM l) = stoneL l := by
 rcases l with _ | ⟨a, _ | ⟨b, _ | ⟨s, _ | ⟨e, _ | ⟨x, r⟩⟩⟩⟩⟩
 ·simp [stoneM, stoneL, nameW, nnW, sgnW, fin, endW]
 ·rcases ha : nameF a <;> simp_all [stoneM, stoneL, nameW, nnW, sgnW, fin, endW]
 ·rcases ha : nameF a <;> rcases hb : nameF b <;> simp_all [stoneM, stoneL, nameW, nnW, sgnW, fin, endW]
 ·rcases ha : nameF a <;> rcases hb : nameF b <;> rcases hs : nnF s <;> simp_all [stoneM, stoneL, nameW, nnW, sgnW, fin, endW]
 ·rcases ha : nameF a <;> rcases hb : nameF b <;> rcases hs : nnF s <;> rcases he : nnF e <;> simp_all [stoneM, stoneL, nameW, nnW, sgnW, fin, endW]
 rcases ha : nameF a <;> rcases hb : nameF b <;> rcases hs : nnF s <;> rcases he : nnF e <;> simp_all [stoneM, stoneL, nameW, nnW, sgnW, fin, endW]
theorem yAs (l : List Bs) : fin (widthM l) = widthL l := by
 rcases l with _ | ⟨a, _ | ⟨o, _ | ⟨b, _ | ⟨s, _ | ⟨e, _ | ⟨x, r⟩⟩⟩⟩⟩⟩
 ·simp [widthM, widthL, nameW, nnW, sgnW, fin, endW]
 ·rcases ha : nameF a <;> simp_all [widthM, widthL, nameW, nnW, sgnW, fin, endW]
 ·rcases ha : nameF a <;> rcases ho : nameF o <;> simp_all [widthM, widthL, nameW, nnW, sgnW, fin, endW]
 ·rcases ha : nameF a <;> rcases ho : nameF o <;> rcases hb : nameF b <;> simp_all [widthM, widthL, nameW, nnW, sgnW, fin, endW]
 ·rcases ha : nameF a <;> rcases ho : nameF o <;> rcases hb : nameF b <;> rcases hs : nnF s <;> simp_all [widthM, widthL, nameW, nnW, sgnW, fin, endW]
 ·rcases ha : nameF a <;> rcases ho : nameF o <;> rcases hb : nameF b <;> rcases hs : nnF s <;> rcases he : nnF e <;> simp_all [widthM, widthL, nameW, nnW, sgnW, fin, endW]
 rcases ha : nameF a <;> rcases ho : nameF o <;> rcases hb : nameF b <;> rcases hs : nnF s <;> rcases he : nnF e <;> simp_all [widthM, widthL, nameW, nnW, sgnW, fin, endW]
theorem y9G (l : List Bs) : fin (alongM l) = alongL l := by
 rcases l with _ | ⟨a, _ | ⟨o, _ | ⟨b, _ | ⟨c, _ | ⟨x, r⟩⟩⟩⟩⟩
 ·simp [alongM, alongL, nameW, nnW, sgnW, fin, endW]
 ·rcases ha : nameF a <;> simp_all [alongM, alongL, nameW, nnW, sgnW, fin, endW]
 ·rcases ha : nameF a <;> rcases ho : nameF o <;> simp_all [alongM, alongL, nameW, nnW, sgnW, fin, endW]
 ·rcases ha : nameF a <;> rcases ho : nameF o <;> rcases hb : nameF b <;> simp_all [alongM, alongL, nameW, nnW, sgnW, fin, endW]
 ·rcases ha : nameF a <;> rcases ho : nameF o <;> rcases hb : nameF b <;> rcases hc : nameF c <;> simp_all [alongM, alongL, nameW, nnW, sgnW, fin, endW]
 rcases ha : nameF a <;> rcases ho : nameF o <;> rcases hb : nameF b <;> rcases hc : nameF c <;> simp_all [alongM, alongL, nameW, nnW, sgnW, fin, endW]
theorem yAD (l : List Bs) : fin (levelM l) = levelL l := by
 rcases l with _ | ⟨a, _ | ⟨b, _ | ⟨c, _ | ⟨s, _ | ⟨e, _ | ⟨x, r⟩⟩⟩⟩⟩⟩
 ·simp [levelM, levelL, nameW, nnW, sgnW, fin, endW]
 ·rcases ha : nameF a <;> simp_all [levelM, levelL, nameW, nnW, sgnW, fin, endW]
 ·rcases ha : nameF a <;> rcases hb : nameF b <;> simp_all [levelM, levelL, nameW, nnW, sgnW, fin, endW]
 ·rcases ha : nameF a <;> rcases hb : nameF b <;> rcases hc : nameF c <;> simp_all [levelM, levelL, nameW, nnW, sgnW, fin, endW]
 ·rcases ha : nameF a <;> rcases hb : nameF b <;> rcases hc : nameF c <;> rcases hs : sgnF s <;> simp_all [levelM, levelL, nameW, nnW, sgnW, fin, endW]
 ·rcases ha : nameF a <;> rcases hb : nameF b <;> rcases hc : nameF c <;> rcases hs : sgnF s <;> rcases he : nnF e <;> simp_all [levelM, levelL, nameW, nnW, sgnW, fin, endW]
 rcases ha : nameF a <;> rcases hb : nameF b <;> rcases hc : nameF c <;> rcases hs : sgnF s <;> rcases he : nnF e <;> simp_all [levelM, levelL, nameW, nnW, sgnW, fin, endW]
def tailM (links bearing : Int) (l : List Bs) : Option (Cs.Co × List Bs) :=
 (nnW l).bind fun e => (fixW kWear e.2).bind fun f => (sgnW f.2).bind fun g => (fixW kSlack g.2).bind fun h => (nnW h.2).bind fun i =>
  some (⟨bearing, e.1, links, 0, g.1, i.1⟩, i.2)
theorem yBi (n d : Int) (l : List Bs) : fin (tailM n d l) = tailL n d l := by
 rcases l with _ | ⟨a, _ | ⟨w, _ | ⟨x, _ | ⟨s, _ | ⟨y, _ | ⟨z, r⟩⟩⟩⟩⟩⟩
 ·simp [tailM, tailL, nnW, sgnW, fixW, fin, endW]
 ·rcases ha : nnF a <;> simp_all [tailM, tailL, nnW, sgnW, fixW, fin, endW]
 ·rcases ha : nnF a <;> by_cases hw : w = kWear <;> simp_all [tailM, tailL, nnW, sgnW, fixW, fin, endW]
 ·rcases ha : nnF a <;> by_cases hw : w = kWear <;> rcases hx : sgnF x <;> simp_all [tailM, tailL, nnW, sgnW, fixW, fin, endW]
 ·rcases ha : nnF a <;> by_cases hw : w = kWear <;> rcases hx : sgnF x <;> by_cases hs : s = kSlack <;> simp_all [tailM, tailL, nnW, sgnW, fixW, fin, endW]
 ·rcases ha : nnF a <;> by_cases hw : w = kWear <;> rcases hx : sgnF x <;> by_cases hs : s = kSlack <;> rcases hy : nnF y <;> simp_all [tailM, tailL, nnW, sgnW, fixW, fin, endW]
 rcases ha : nnF a <;> by_cases hw : w = kWear <;> rcases hx : sgnF x <;> by_cases hs : s = kSlack <;> rcases hy : nnF y <;> simp_all [tailM, tailL, nnW, sgnW, fixW, fin, endW]
theorem y8P (l : List Bs) : courseM l = (nameW l).bind fun a => (nameW a.2).bind fun b => (nameW b.2).bind fun c => (lenW kBy c.2).bind fun n => (berW kGive n.2).bind fun d =>
  (tailM n.1 d.1 d.2).bind fun t => some (⟨a.1, [], b.1, c.1, { ca0 with k := 3, c := t.1 }⟩, t.2) := by
 unfold courseM tailM;simp only [Option.bind_assoc, Option.bind_some]
theorem y8R (l : List Bs) : fin (courseM l) = courseL l := by
 rw [y8P];rcases l with _ | ⟨a, _ | ⟨b, _ | ⟨c, r⟩⟩⟩
 ·simp [courseL, nameW, fin]
 ·rcases ha : nameF a <;> simp_all [courseL, nameW, fin]
 ·rcases ha : nameF a <;> rcases hb : nameF b <;> simp_all [courseL, nameW, fin]
 rcases ha : nameF a
 ·simp_all [courseL, nameW, fin]
 rcases hb : nameF b
 ·simp_all [courseL, nameW, fin]
 rcases hc : nameF c
 ·simp_all [courseL, nameW, fin]
 simp only [courseL, nameW, ha, hb, hc, if_true, Option.bind_some, Bool.and_self, runL, lenW];rcases hu : upTo kBy r with _ | ⟨s, q⟩
 ·simp [fin]
 simp only [];by_cases h1 : (Cs.lnkF s).2 = 0 /\ 1 <= (Cs.lnkF s).1 /\ (Cs.lnkF s).1 <= 100000
 ·rw [if_pos h1, if_pos h1];simp only [Option.bind_some, berW];rcases hv : upTo kGive q with _ | ⟨t, q2⟩
  ·simp [fin]
  simp only [];by_cases h2 : (Cs.berF t).2 = 0
  ·rw [if_pos h2, if_pos h2];simp only [Option.bind_some];rw [<- yBi];rcases tailM (Cs.lnkF s).1 (Cs.berF t).1 q2 with _ | ⟨co, q3⟩
   ·simp [fin]
   rcases q3 with _ | ⟨z, q3⟩ <;> simp [fin, endW]
  rw [if_neg h2, if_neg h2];simp [fin]
 rw [if_neg h1, if_neg h1];simp [fin]
def draftM : List Bs -> Option (Dr × List Bs)
  | [] => none
  | k :: r =>
    if k = kStone then stoneM r else if k = kWidth then widthM r else if k = kCourse then courseM r
    else if k = kAlong then alongM r else if k = kLevel then levelM r else none
theorem y9h (l : List Bs) : fin (draftM l) = draftF l := by
 rcases l with _ | ⟨k, r⟩
 ·rfl
 simp only [draftM, draftF];split
 ·exact yAj r
 split
 ·exact yAs r
 split
 ·exact y8R r
 split
 ·exact y9G r
 split
 ·exact yAD r
 rfl
def wsum : List Bs -> Nat
 | [] => 0
 | x :: r => x.length + 1 + wsum r
theorem y5T : ∀ l : List Bs, l.length <= wsum l
 | [] => Nat.le_refl _
 | x :: r => by have := y5T r; simp [wsum]; omega
theorem y5U : ∀ (l : List Bs) (x : Bs), x ∈ l -> x.length <= wsum l
  | y :: r, x, h => by
    rcases List.mem_cons.1 h with rfl | h
    · simp [wsum]; omega
    have := y5U r x h; simp [wsum]; omega
theorem y5S : ∀ (l r : List Bs), wsum (l ++ r) = wsum l + wsum r
 | [], r => by simp [wsum]
 | x :: l, r => by rw [List.cons_append, wsum, wsum, y5S l r]; omega
theorem y6a (l : List Bs) (k : Nat) : wsum (l.take k) <= wsum l := by
 have := y5S (l.take k) (l.drop k);rw [List.take_append_drop] at this;omega
theorem yAv (l : List Bs) (k : Nat) : wsum (l.drop k) <= wsum l := by
 have := y5S (l.take k) (l.drop k);rw [List.take_append_drop] at this;omega
theorem y6Z (l : List Bs) : (Lib.join l [32]).length <= wsum l := by
  have ht : ∀ r : List Bs, (Lib.joinTail [32] r).length <= wsum r := fun r => by
    induction r with
    | nil => simp [Lib.joinTail]
    | cons y t ih =>
      rw [show Lib.joinTail [32] (y :: t) = 32 :: (y ++ Lib.joinTail [32] t) by simp [Lib.joinTail]];simp only [List.length_cons, List.length_append, wsum];omega
  cases l with
  | nil => simp [Lib.join_nil]
  | cons w r =>
    have h2 := ht r;rw [Lib.join_cons];simp only [List.length_append, wsum];omega
theorem y7b (l : List Bs) (p : Bs -> Bool) : wsum (l.filter p) <= wsum l := by
  induction l with
  | nil => simp [wsum]
  | cons x r ih =>
    rw [List.filter_cons];split <;> simp only [wsum] <;> omega
theorem yBo (s : Bs) : wsum (Cs.cutF s) = s.length + 1 := by
  induction s with
  | nil => simp [Cs.cutF, wsum]
  | cons c r ih =>
    rw [Cs.cutF];split
    · simp only [wsum, ih, List.length_cons, List.length_nil]; omega
    split
    · rename_i h
      exact absurd h (Cs.y4n r)
    rename_i x t h;rw [h] at ih;simp only [wsum, List.length_cons] at ih ⊢;omega
def linesG {σ : Type} (step : σ -> List Bs -> Int × σ) (s : σ) : List Bs -> Int -> (Int × Int) × σ
  | [], _ => ((0, 0), s)
  | l :: r, k =>
    if fieldsF l = [] then linesG step s r (k + 1)
    else if (step s (fieldsF l)).1 = 0 then linesG step (step s (fieldsF l)).2 r (k + 1)
    else (((step s (fieldsF l)).1, k), s)
theorem y6w (f : Fd) : ∀ (l : List Bs) (k : Int), fieldG f l k = linesG lineF f l k := by
  intro l
  induction l generalizing f with
  | nil => intro k; rfl
  | cons t r ih =>
    intro k;rw [fieldG, linesG, ih, ih]
end Dd
end

section
open Go.RowKit
theorem y2h (c : UInt8) (w : World) : Calls Tryz.prog 185 #[.int .u8 c.toNat] w fun e w' => e = .returned (.bool (Dd.isLet c)) /\ w = w' := by
 have hc := c.toNat_lt;have hd : Dd.isLet c = decide (97 <= c.toNat /\ c.toNat <= 122) := rfl;obtain ⟨n, hn⟩ := zE (c.toNat);rw [hn] at hc hd ⊢;rcases h1 : decide (97 <= (n : Int)) with _ | _
 ·have hf : Dd.isLet c = false := by rw [hd]; exact decide_eq_false (fun h => of_decide_eq_false h1 (by omega))
  rw [hf];clear hd hf hn;go_enter Tryz.func185, Tryz.ntmps185;go_wp2_with fail;go_ret;exact ⟨rfl, rfl⟩
 rcases h2 : decide ((n : Int) <= 122) with _ | _
 ·have hf : Dd.isLet c = false := by rw [hd]; exact decide_eq_false (fun h => of_decide_eq_false h2 (by omega))
  rw [hf];clear hd hf hn;go_enter Tryz.func185, Tryz.ntmps185;go_wp2_with fail;go_ret;exact ⟨rfl, rfl⟩
 have hf : Dd.isLet c = true := by rw [hd]; exact decide_eq_true ⟨by have := of_decide_eq_true h1; omega, by have := of_decide_eq_true h2; omega⟩
 rw [hf];clear hd hf hn;go_enter Tryz.func185, Tryz.ntmps185;go_wp2_with fail;go_ret;exact ⟨rfl, rfl⟩
theorem yD1 {c : UInt8} {r : Cs.Bs} (h : 0 < (⟨(c :: r).toArray⟩ : ByteArray).size) : (⟨(c :: r).toArray⟩ : ByteArray)[0] = c := rfl
theorem y1u (s : Cs.Bs) (hs : s.length <= 1000000) (w : World) : Calls Tryz.prog 130 #[sv s] w fun e w' => e = .returned (.bool (Dd.nameF s)) /\ Below w.heap.size w w' := by
 rw [y06];rcases s with _ | ⟨c, r⟩
 ·go_enter Tryz.func130, Tryz.ntmps130;go_wp2_with fail;go_ret;exact ⟨rfl, Below.refl _ _⟩
 have hem : (c :: r).isEmpty = false := rfl;have hnf : Dd.nameF (c :: r) = (decide ((c :: r).length <= 24) && Dd.isLet c && (c :: r).all Dd.nameC) := rfl;have hb := fun (h : 0 < (⟨(c :: r).toArray⟩ : ByteArray).size) => yD1 h;have hbs : (⟨(c :: r).toArray⟩ : ByteArray).size = (c :: r).length := by show (c :: r).toArray.size = _; simp
 have hconv := fun W => Lib.run_convert_string_bytes (P := Tryz.prog) W 9 169 5 ⟨(c :: r).toArray⟩ Tryz.underlying9 Tryz.underlying169 Tryz.underlying5;have hcell := fun (W : World) (k : Nat) (hk : k < (c :: r).length) => Lib.bytesWorld_cell W 5 ⟨(c :: r).toArray⟩ k (by rw [hbs]; exact hk);obtain ⟨l, hl⟩ := zE (c :: r);rw [hl] at hs hem hnf hb hbs hconv hcell ⊢;have hlp : 0 < l.length := by rw [<- hl]; simp
 clear hl r;rcases h1 : decide (24 < (l.length : Int)) with _ | _
 ·have h24 : l.length <= 24 := by have := of_decide_eq_false h1; omega
  rw [decide_eq_true h24, Bool.true_and] at hnf;have hL := fun W => y2h c W;rcases hc : Dd.isLet c with _ | _
  ·rw [hc] at hL hnf;rw [hnf, Bool.false_and];have HL := jQ hL;clear hL hc hnf hconv hcell;go_enter Tryz.func130, Tryz.ntmps130;go_wp2_with (go_at_call 185; refine (HL.o _).mono ?_; rintro e w' ⟨rfl, rfl⟩);go_ret;exact ⟨rfl, Below.refl _ _⟩
  rw [hc] at hL hnf;rw [hnf, Bool.true_and];have HL := jQ hL;have hcv := hconv w;have hbb := y2z w 5 ⟨l.toArray⟩;have hce : ∀ k (hk : k < l.length), (Lib.bytesWorld w 5 ⟨l.toArray⟩).cell? ⟨w.heap.size, k, none⟩ = some (.int .u8 (l[k].toNat)) := fun k hk => by
   rw [hcell w k hk];simp [List.getD, hk]
  have hsz : w.heap.size < (Lib.bytesWorld w 5 ⟨l.toArray⟩).heap.size := by rw [Lib.bytesWorld_size]; omega
  obtain ⟨W1, hW1⟩ := zE (Lib.bytesWorld w 5 ⟨l.toArray⟩);rw [hW1] at hcv hbb hce hsz;obtain ⟨cap, hcap⟩ := zE (grownCap w (⟨l.toArray⟩ : ByteArray).size 0 5);rw [hcap, hbs] at hcv;obtain ⟨F, hF⟩ := zE (l.all Dd.nameC);rw [hF];have HF := jQ hF;have HCE := jQ hce;have HBB := jQ hbb;obtain ⟨g, hg⟩ := zE (w.heap.size);rw [hg] at hcv hsz HCE;have HG := jQ hg;clear hL hc hnf hconv hcell hW1 hcap hce hF hbb hg;go_enter Tryz.func130, Tryz.ntmps130;go_wp2_with (go_at_call 185; refine (HL.o _).mono ?_; rintro e w' ⟨rfl, rfl⟩);clear hcv HL;go_loopw [21] (fun I wr => ∃ k : Nat, k <= l.length /\ I = .int .i64 k /\ wr = W1 /\ (l.take k).all Dd.nameC = true) (fun I _ => l.length - (intOf I).toNat)
  case atStart => exact ⟨0, Nat.zero_le _, rfl, rfl, rfl⟩
  obtain ⟨k, hk, rfl, rfl, ha⟩ := hrel;have HA := jQ ha;clear ha;by_cases hlt : k < l.length
  ·have e0 := HCE.o k hlt;have hall : (l.take (k + 1)).all Dd.nameC = ((l.take k).all Dd.nameC && Dd.nameC l[k]) := by
    rw [List.take_succ_eq_append_getElem hlt, List.all_append];simp
   have hno : Dd.nameC l[k] = false -> l.all Dd.nameC = false := fun h => by
    rw [<- Bool.not_eq_true, List.all_eq_true];intro h2;have := h2 _ (List.getElem_mem hlt);rw [h] at this;cases this
   obtain ⟨b, hb2⟩ := zE (l[k]);rw [hb2] at e0 hall hno;have hL := fun W => y2h b W;have hbr := b.toNat_lt;have hnc : Dd.nameC b = (Dd.isLet b || decide (48 <= b.toNat /\ b.toNat <= 57) || decide (b.toNat = 45)) := rfl;have HNO := jQ hno;rw [HA.o, Bool.true_and] at hall;have HALL := jQ hall;clear hno hall hb2;rcases hcl : Dd.isLet b with _ | _
   ·rw [hcl] at hL hnc;have HL := jQ hL;rw [Bool.false_or] at hnc;have HNC := jQ hnc;obtain ⟨n, hn⟩ := zE (b.toNat);rw [hn] at e0 hbr HNC HL;clear hL hnc hcl hn;by_cases hnum : 48 <= n /\ n <= 57
    ·have d1 : decide ((n : Int) < 48) = false := decide_eq_false (by omega);have d2 : decide (57 < (n : Int)) = false := decide_eq_false (by omega);have hv : Dd.nameC b = true := by rw [HNC.o, decide_eq_true hnum]; rfl
     have HV := jQ (HALL.o.trans hv);clear hv hnum;go_wp2_with (go_at_call 185; refine (HL.o _).mono ?_; rintro e w' ⟨rfl, rfl⟩);go_roundw
     case rel => exact ⟨k + 1, by omega, by go_num, trivial, HV.o⟩
     case measure => simp [intOf]; omega
    by_cases h45 : n = 45
    ·have hv : Dd.nameC b = true := by rw [HNC.o, decide_eq_true h45]; simp
     have HV := jQ (HALL.o.trans hv);subst h45;clear hv hnum;go_wp2_with (go_at_call 185; refine (HL.o _).mono ?_; rintro e w' ⟨rfl, rfl⟩);go_roundw
     case rel => exact ⟨k + 1, by omega, by go_num, trivial, HV.o⟩
     case measure => simp [intOf]; omega
    have d3 : ((n : Int) == 45) = false := by rw [beq_eq_false_iff_ne]; omega
    have hv : Dd.nameC b = false := by rw [HNC.o, decide_eq_false hnum, decide_eq_false h45]; rfl
    have HV := jQ (HF.o.symm.trans (HNO.o hv));rcases d1 : decide ((n : Int) < 48) with _ | _
    ·have d2 : decide (57 < (n : Int)) = true := decide_eq_true (by have := of_decide_eq_false d1; omega);clear hv hnum h45;go_wp2_with (go_at_call 185; refine (HL.o _).mono ?_; rintro e w' ⟨rfl, rfl⟩);go_ret;exact ⟨y00 HV.o.symm, HBB.o⟩
    clear hv hnum h45;go_wp2_with (go_at_call 185; refine (HL.o _).mono ?_; rintro e w' ⟨rfl, rfl⟩);go_ret;exact ⟨y00 HV.o.symm, HBB.o⟩
   rw [hcl] at hL hnc;have HL := jQ hL;have hv : Dd.nameC b = true := by rw [hnc]; simp
   have HV := jQ (HALL.o.trans hv);clear hL hnc hcl hv;go_wp2_with (go_at_call 185; refine (HL.o _).mono ?_; rintro e w' ⟨rfl, rfl⟩);go_roundw
   case rel => exact ⟨k + 1, by omega, by go_num, trivial, HV.o⟩
   case measure => simp [intOf]; omega
  obtain rfl : k = l.length := by omega
  have h := HA.o;rw [List.take_length] at h;have HV := jQ (HF.o.symm.trans h);clear h;go_wp2_with fail;go_ret;exact ⟨y00 HV.o.symm, HBB.o⟩
 have hf : Dd.nameF l = false := by rw [hnf, decide_eq_false (by have := of_decide_eq_true h1; omega)]; rfl
 rw [hf];clear hnf hf hconv hcell;go_enter Tryz.func130, Tryz.ntmps130;go_wp2_with fail;go_ret;exact ⟨rfl, Below.refl _ _⟩
end

section
open Go.RowKit
def pan (e : Int) : PanicEntry := { v := .iface 31 (.int .i64 e), recovered := false }
structure Wz (W : World) (b : Nat) (l : List Cs.Bs) : Prop where
 ex : ∃ A c, Bk W b 180 #[.slice A l.length c] /\ Rd W b 1 A l.length (wcells l) /\ l.length <= c
 hs : Dd.wsum l <= 1000000
 g9 : 9 <= b
section
variable {W W' : World} {b : Nat} {l : List Cs.Bs}
theorem Wz.below (h : Wz W b l) (hb : Below W.heap.size W W') : Wz W' b l := by
 obtain ⟨A, c, h1, h2, h3⟩ := h.ex;exact ⟨⟨A, c, h1.below hb h1.lt, h2.below hb (Nat.le_of_lt h1.lt), h3⟩, h.hs, h.g9⟩
theorem Wz.but {X : Nat -> Prop} (h : Wz W b l) (hb : But X W W') (hx : ∀ k, k <= b -> ¬ X k) : Wz W' b l := by
 obtain ⟨A, c, h1, h2, h3⟩ := h.ex;exact ⟨⟨A, c, hb.bk h1 (hx b (Nat.le_refl b)), hb.rd h2 (Nat.le_of_lt h1.lt) (fun k hk => hx k (Nat.le_of_lt hk)), h3⟩, h.hs, h.g9⟩
theorem Wz.hn (h : Wz W b l) : l.length <= 1000000 := Nat.le_trans (Dd.y5T l) h.hs
theorem Wz.hl (h : Wz W b l) : ∀ x ∈ l, x.length <= 1000000 := fun x hx => Nat.le_trans (Dd.y5U l x hx) h.hs
theorem Wz.lt (h : Wz W b l) : b < W.heap.size := by
 obtain ⟨A, c, h1, h2, h3⟩ := h.ex;exact h1.lt
end
def Wo {α : Type} (b : Nat) (W : World) (val : α -> Value) (r : Option (α × List Cs.Bs)) (e : Ending) (W' : World) : Prop :=
 But (fun k => k = b) W W' /\ (match r with | some p => e = .returned (val p.1) /\ Wz W' b p.2 | none => e = .panicked [pan 4])
def uv : Unit -> Value := fun _ => .tuple #[]
def zv : Int -> Value := fun n => .int .i64 n
theorem y0L (e : Int) (w : World) : Calls Tryz.prog 151 #[.bool true, .int .i64 e] w fun x w' => x = .returned (.tuple #[]) /\ Below w.heap.size w w' := by
 go_enter Tryz.func151, Tryz.ntmps151;go_wp2_with fail
 go_end0
 exact ⟨rfl, Below.refl _ _⟩
theorem y0U (e : Int) (w : World) : Calls Tryz.prog 151 #[.bool false, .int .i64 e] w fun x w' => x = .panicked [pan e] /\ Below w.heap.size w w' := by
 go_enter Tryz.func151, Tryz.ntmps151;go_wp2_with fail;exact ⟨rfl, rfl, Below.refl _ _⟩
theorem Rd.tail_text {w : World} {B b o : Nat} {x : Cs.Bs} {r : List Cs.Bs} (h : Rd w B 1 (some ⟨b, o, none⟩) (x :: r).length (wcells (x :: r))) : Rd w B 1 (some ⟨b, o + 1, none⟩) r.length (wcells r) := by
 obtain ⟨b', o', e, hb, hc⟩ := h.2 (by simp);obtain ⟨rfl, rfl⟩ : b = b' /\ o = o' := by simpa using e
 refine ⟨by simp [wcells], fun _ => ⟨_, _, rfl, hb, fun j hj => ?_⟩⟩;rw [show o + 1 + j = o + (j + 1) by omega, hc (j + 1) (by simp; omega)];simp [wcells]
theorem y1Q (b : Nat) (l : List Cs.Bs) (W : World) (h : Wz W b l) :
  Calls Tryz.prog 150 #[.pointer (some ⟨b, 0, none⟩)] W (Wo b W sv (Dd.nextW l)) := by
 obtain ⟨A, c, hK, hR, hc⟩ := h.ex;have hs := h.hs;have hg := h.g9;have c0 := (hK.cell 0).trans rfl;have f0 := hK.frozen 0;have l0 := hK.lt;rcases l with _ | ⟨x, r⟩
 ·have N0 := jQ (y0U 4);clear h hK hR hs;go_enter Tryz.func150, Tryz.ntmps150;go_wp2_with (fail);refine (N0.o _).mono ?_;rintro e w1 ⟨rfl, hb⟩;go_wp2_with (fail);exact ⟨rfl, But.of hb, rfl⟩
 have N0 := jQ (y0L 4);obtain ⟨o, off, rfl, ho, y0⟩ := hR.text (k := 0) (by simp);simp only [List.length_cons, Nat.add_zero, List.getElem_cons_zero] at y0 c0 hK;have g1 : decide ((0 : Int) < ((r.length + 1 : Nat) : Int)) = true := decide_eq_true (by omega);have HK := jQ hK;have HR := jQ hR;have HC := jQ hc;have HN := jQ hs;clear h hK hR hc hs;go_enter Tryz.func150, Tryz.ntmps150;go_wp2_with (fail);refine (N0.o _).mono ?_;rintro e w1 ⟨rfl, hb⟩;have c0 := (HK.o.below hb HK.o.lt |>.cell 0).trans rfl;have f0 := (HK.o.below hb HK.o.lt).frozen 0;have l0 := (HK.o.below hb HK.o.lt).lt;have y0 := (hb.cell (p := ⟨o, off, none⟩) (by have := HK.o.lt; simp; omega)).trans y0;go_wp2_with (fail)
 case inl =>
  have hr : r = [] := by
   have h1 := HC.o;have h2 := ‹c = 1›;simp at h1;exact List.length_eq_zero_iff.1 (by omega)
  subst hr;go_ret;have hB : But (fun k => k = b) W w1 := But.of hb;exact ⟨hB.set (p := ⟨b, 0, none⟩) rfl _, rfl, ⟨⟨_, _, (HK.o.below hb HK.o.lt).set 0 _, Rd.nil _ _ _ _, Nat.le_refl _⟩, Nat.zero_le _, hg⟩⟩
 go_ret;have hB : But (fun k => k = b) W w1 := But.of hb;refine ⟨hB.set (p := ⟨b, 0, none⟩) rfl _, rfl, (?_ : Wz _ b r)⟩;refine ⟨⟨_, _, (HK.o.below hb HK.o.lt).set 0 _, ?_, ?_⟩, ?_, ?_⟩
 ·exact ((HR.o.below hb (Nat.le_of_lt HK.o.lt)).tail_text).setc (p := ⟨b, 0, none⟩) (Nat.le_refl b) _
 ·have := HC.o; simp at this; omega
 ·have := HN.o; simp only [Dd.wsum] at this; omega
 exact hg
theorem Wo.some_ {α : Type} {b : Nat} {W W' : World} {val : α -> Value} {r : Option (α × List Cs.Bs)} {e : Ending} {a : α} {l : List Cs.Bs} (h : Wo b W val r e W') (hr : r = some (a, l)) : e = .returned (val a) /\ But (fun k => k = b) W W' /\ Wz W' b l := by
 subst hr;exact ⟨h.2.1, h.1, h.2.2⟩
theorem Wo.none_ {α : Type} {b : Nat} {W W' : World} {val : α -> Value} {r : Option (α × List Cs.Bs)} {e : Ending} (h : Wo b W val r e W') (hr : r = none) : e = .panicked [pan 4] /\ But (fun k => k = b) W W' := by
 subst hr;exact ⟨h.2, h.1⟩
theorem Wo.yes {α : Type} {b : Nat} {W W' : World} {val : α -> Value} {r : Option (α × List Cs.Bs)} {a : α} {l : List Cs.Bs} (hr : r = some (a, l)) (hB : But (fun k => k = b) W W') (hz : Wz W' b l) : Wo b W val r (.returned (val a)) W' := by
 subst hr;exact ⟨hB, rfl, hz⟩
theorem Wo.no {α : Type} {b : Nat} {W W' : World} {val : α -> Value} {r : Option (α × List Cs.Bs)} (hr : r = none) (hB : But (fun k => k = b) W W') : Wo b W val r (.panicked [pan 4]) W' := by
 subst hr;exact ⟨hB, rfl⟩
theorem y04 (b : Nat) (l : List Cs.Bs) (W : World) (h : Wz W b l) :
  Calls Tryz.prog 193 #[.pointer (some ⟨b, 0, none⟩)] W (Wo b W sv (Dd.nameW l)) := by
 have H0 := jQ (y1Q b l W h);have HL := jQ h.hl;rcases l with _ | ⟨x, r⟩
 ·clear h;go_enter Tryz.func193, Tryz.ntmps193;go_wp2_with fail;refine H0.o.mono ?_;intro e w1 he;obtain ⟨rfl, hb⟩ := he.none_ rfl;go_wp2_with fail;exact ⟨rfl, Wo.no rfl hb⟩
 have HN := jQ (y1u x (HL.o x List.mem_cons_self));obtain ⟨R, hR⟩ := zE (Dd.nameF x);have HW := jQ (show Dd.nameW (x :: r) = if R then some (x, r) else none by rw [<- hR]; rfl);rw [hR] at HN;simp only [y06] at HN;clear h hR;rcases R with _ | _
 ·have N0 := jQ (y0U 4);go_enter Tryz.func193, Tryz.ntmps193;go_wp2_with fail;refine H0.o.mono ?_;intro e w1 he;obtain ⟨rfl, hb, hz⟩ := he.some_ rfl;have HB := jQ hb;clear he hb hz;simp only [y06];go_wp2_with fail;refine (HN.o _).mono ?_;rintro e w2 ⟨rfl, hb2⟩;have HB2 := jQ hb2;clear hb2;go_wp2_with fail;refine (N0.o _).mono ?_;rintro e w3 ⟨rfl, hb3⟩;go_wp2_with fail;exact ⟨rfl, Wo.no HW.o ((HB.o.trans (But.of HB2.o)).trans (But.of hb3))⟩
 have N0 := jQ (y0L 4);go_enter Tryz.func193, Tryz.ntmps193;go_wp2_with fail;refine H0.o.mono ?_;intro e w1 he;obtain ⟨rfl, hb, hz⟩ := he.some_ rfl;have HB := jQ hb;have HZ := jQ hz;clear he hb hz;simp only [y06];go_wp2_with fail;refine (HN.o _).mono ?_;rintro e w2 ⟨rfl, hb2⟩;have HB2 := jQ hb2;clear hb2;go_wp2_with fail;refine (N0.o _).mono ?_;rintro e w3 ⟨rfl, hb3⟩;have HB3 := jQ hb3;clear hb3;go_wp2_with fail;go_ret;exact Wo.yes (val := sv) HW.o ((HB.o.trans (But.of HB2.o)).trans (But.of HB3.o)) ((HZ.o.below HB2.o).below HB3.o)
end

section
open Go.RowKit
theorem Rd.bound {w : World} {B : Nat} {A : Option Addr} {l : List Dd.Bd} (h : Rd w B 4 A l.length (bcells l)) {k : Nat} (hk : k < l.length) :
  ∃ b off, A = some ⟨b, off, none⟩ /\ b < B /\ w.cell? ⟨b, off + k * 4, none⟩ = some (.int .i64 l[k].f) /\ w.cell? ⟨b, off + k * 4 + 1, none⟩ = some (.int .i64 l[k].t) /\
   w.cell? ⟨b, off + k * 4 + 2, none⟩ = some (.int .i64 l[k].m) /\ w.cell? ⟨b, off + k * 4 + 3, none⟩ = some (.int .i64 l[k].r) := by
 obtain ⟨b, off, e, hb, hc⟩ := Rd.item (cell := bcell) h y2x hk;exact ⟨b, off, e, hb, hc 0 (by decide), hc 1 (by decide), hc 2 (by decide), hc 3 (by decide)⟩
theorem y2w {α : Type} (p : α -> Bool) (l : List α) : l.any p = decide (0 <= Dd.idxP p l 0) := by
 rcases Dd.y14 p l 0 with ⟨i, hi, h1, h2, h3⟩ | ⟨h1, h2⟩
 ·rw [h3, decide_eq_true (by omega), List.any_eq_true];exact ⟨l[i], List.getElem_mem hi, h1⟩
 rw [h2, decide_eq_false (by decide), List.any_eq_false];intro x hx;obtain ⟨i, hi, rfl⟩ := List.getElem_of_mem hx;rw [h1 i hi];simp
theorem y5o (g : Nat) (cap : Array Value) (p : Cs.Bs × Int -> Bool) (A : Option Addr) (c : Nat) (ys : List (Cs.Bs × Int)) (w : World) (hR : Rd w w.heap.size 2 A ys.length (scells ys)) (hl : ys.length <= 1000000)
  (eg : ∀ args w, (callFunc g args).run Tryz.prog w = .ok (.enter g args) w)
  (hcl : ∀ x ∈ ys, ∀ W, Below w.heap.size w W -> Calls Tryz.prog g (#[.agg #[.string ⟨x.1.toArray⟩, .int .i64 x.2]] ++ cap) W fun e w' => e = .returned (.bool (p x)) /\ Below W.heap.size W w') :
  Calls Tryz.prog 184 #[.slice A ys.length c, .func (.func g) #[] cap] w fun e w' => e = .returned (.int .i64 (Dd.idxP p ys 0)) /\ Below w.heap.size w w' := by
 have HCL := jQ hcl;have HR := jQ hR;clear hcl hR;go_enter Tryz.func184, Tryz.ntmps184;go_wp2_with fail;go_loopw [8] (fun I wr => ∃ k : Nat, k <= ys.length /\ I = .int .i64 k /\ (∀ j (h : j < ys.length), j < k -> p ys[j] = false) /\ Below w.heap.size w wr) (fun I _ => ys.length - (intOf I).toNat)
 case atStart => exact ⟨0, Nat.zero_le _, rfl, fun j h hj => absurd hj (by omega), Below.refl _ _⟩
 obtain ⟨k, hk, rfl, ha, hB⟩ := hrel;have HA := jQ ha;have HB := jQ hB;clear ha;by_cases hlt : k < ys.length
 ·obtain ⟨b, off, rfl, hb, e0, e1⟩ := (HR.o.below hB (Nat.le_refl _)).station hlt;have hc := HCL.o _ (List.getElem_mem hlt) wr hB;have hb2 : b < wr.heap.size := Nat.lt_of_lt_of_le hb hB.size;obtain ⟨x, hx⟩ := zE (ys[k]);rw [hx] at e0 e1 hc;have HX := jQ hx;have HC := jQ hc;rcases hp : p x with _ | _
  ·rw [hp] at hc;have HP := jQ hp;have HC := jQ hc;clear hc hp hx hB;go_wp2_with fail;refine HC.o.mono ?_;rintro e w2 ⟨rfl, hb3⟩;have HB2 := jQ (HB.o.trans (hb3.mono HB.o.size));clear hb3;go_wp2_with fail;go_roundw
   case rel =>
    refine ⟨k + 1, by omega, by go_num, fun j h hj => ?_, HB2.o⟩;by_cases e : j = k
    ·subst e;rw [HX.o];exact HP.o
    exact HA.o j h (by omega)
   case measure => simp [intOf]; omega
  rw [hp] at hc;have hres : Dd.idxP p ys 0 = k := Dd.y1h hlt (by rw [hx]; exact hp) (fun j hj => HA.o j (by omega) hj);have HRES := jQ hres;have HC := jQ hc;clear hc hp hx hB hres;go_wp2_with fail;refine HC.o.mono ?_;rintro e w2 ⟨rfl, hb3⟩;have HB2 := jQ (HB.o.trans (hb3.mono HB.o.size));clear hb3;go_wp2_with fail;go_ret;exact ⟨y02 HRES.o.symm, HB2.o⟩
 have hres : Dd.idxP p ys 0 = -1 := Dd.y1i (fun j h => HA.o j h (by omega));have HRES := jQ hres;obtain rfl : k = ys.length := by omega
 clear hres hB;go_wp2_with fail;go_ret;exact ⟨y02 HRES.o.symm, HB.o⟩
theorem y9W (g : Nat) (cap : Array Value) (p : Cs.Bs × Int -> Bool) (A : Option Addr) (c : Nat) (ys : List (Cs.Bs × Int)) (w : World) (hR : Rd w w.heap.size 2 A ys.length (scells ys)) (hl : ys.length <= 1000000)
  (eg : ∀ args w, (callFunc g args).run Tryz.prog w = .ok (.enter g args) w)
  (hcl : ∀ x ∈ ys, ∀ W, Below w.heap.size w W -> Calls Tryz.prog g (#[.agg #[.string ⟨x.1.toArray⟩, .int .i64 x.2]] ++ cap) W fun e w' => e = .returned (.bool (p x)) /\ Below W.heap.size W w') :
  Calls Tryz.prog 128 #[.slice A ys.length c, .func (.func g) #[] cap] w fun e w' => e = .returned (.bool (ys.any p)) /\ Below w.heap.size w w' := by
 have h1 := y5o g cap p A c ys w hR hl eg hcl;rw [y2w];obtain ⟨i, hi⟩ := zE (Dd.idxP p ys 0);rw [hi] at h1 ⊢;have H1 := jQ h1;clear h1 hcl hR hi eg;go_enter Tryz.func128, Tryz.ntmps128;go_wp2_with fail;refine H1.o.mono ?_;rintro e w2 ⟨rfl, hb⟩;have HB := jQ hb;clear hb;go_wp2_with fail;go_ret;exact ⟨rfl, HB.o⟩
theorem y5p (g : Nat) (cap : Array Value) (p : Cs.Bs -> Bool) (A : Option Addr) (c : Nat) (ys : List (Cs.Bs)) (w : World) (hR : Rd w w.heap.size 1 A ys.length (wcells ys)) (hl : ys.length <= 1000000)
  (eg : ∀ args w, (callFunc g args).run Tryz.prog w = .ok (.enter g args) w)
  (hcl : ∀ x ∈ ys, ∀ W, Below w.heap.size w W -> Calls Tryz.prog g (#[.string ⟨x.toArray⟩] ++ cap) W fun e w' => e = .returned (.bool (p x)) /\ Below W.heap.size W w') :
  Calls Tryz.prog 186 #[.slice A ys.length c, .func (.func g) #[] cap] w fun e w' => e = .returned (.int .i64 (Dd.idxP p ys 0)) /\ Below w.heap.size w w' := by
 have HCL := jQ hcl;have HR := jQ hR;clear hcl hR;go_enter Tryz.func186, Tryz.ntmps186;go_wp2_with fail;go_loopw [8] (fun I wr => ∃ k : Nat, k <= ys.length /\ I = .int .i64 k /\ (∀ j (h : j < ys.length), j < k -> p ys[j] = false) /\ Below w.heap.size w wr) (fun I _ => ys.length - (intOf I).toNat)
 case atStart => exact ⟨0, Nat.zero_le _, rfl, fun j h hj => absurd hj (by omega), Below.refl _ _⟩
 obtain ⟨k, hk, rfl, ha, hB⟩ := hrel;have HA := jQ ha;have HB := jQ hB;clear ha;by_cases hlt : k < ys.length
 ·obtain ⟨b, off, rfl, hb, e0⟩ := (HR.o.below hB (Nat.le_refl _)).text hlt;have hc := HCL.o _ (List.getElem_mem hlt) wr hB;have hb2 : b < wr.heap.size := Nat.lt_of_lt_of_le hb hB.size;obtain ⟨x, hx⟩ := zE (ys[k]);rw [hx] at e0 hc;have HX := jQ hx;have HC := jQ hc;rcases hp : p x with _ | _
  ·rw [hp] at hc;have HP := jQ hp;have HC := jQ hc;clear hc hp hx hB;go_wp2_with fail;refine HC.o.mono ?_;rintro e w2 ⟨rfl, hb3⟩;have HB2 := jQ (HB.o.trans (hb3.mono HB.o.size));clear hb3;go_wp2_with fail;go_roundw
   case rel =>
    refine ⟨k + 1, by omega, by go_num, fun j h hj => ?_, HB2.o⟩;by_cases e : j = k
    ·subst e;rw [HX.o];exact HP.o
    exact HA.o j h (by omega)
   case measure => simp [intOf]; omega
  rw [hp] at hc;have hres : Dd.idxP p ys 0 = k := Dd.y1h hlt (by rw [hx]; exact hp) (fun j hj => HA.o j (by omega) hj);have HRES := jQ hres;have HC := jQ hc;clear hc hp hx hB hres;go_wp2_with fail;refine HC.o.mono ?_;rintro e w2 ⟨rfl, hb3⟩;have HB2 := jQ (HB.o.trans (hb3.mono HB.o.size));clear hb3;go_wp2_with fail;go_ret;exact ⟨y02 HRES.o.symm, HB2.o⟩
 have hres : Dd.idxP p ys 0 = -1 := Dd.y1i (fun j h => HA.o j h (by omega));have HRES := jQ hres;obtain rfl : k = ys.length := by omega
 clear hres hB;go_wp2_with fail;go_ret;exact ⟨y02 HRES.o.symm, HB.o⟩
theorem y9X (g : Nat) (cap : Array Value) (p : Cs.Bs -> Bool) (A : Option Addr) (c : Nat) (ys : List (Cs.Bs)) (w : World) (hR : Rd w w.heap.size 1 A ys.length (wcells ys)) (hl : ys.length <= 1000000)
  (eg : ∀ args w, (callFunc g args).run Tryz.prog w = .ok (.enter g args) w)
  (hcl : ∀ x ∈ ys, ∀ W, Below w.heap.size w W -> Calls Tryz.prog g (#[.string ⟨x.toArray⟩] ++ cap) W fun e w' => e = .returned (.bool (p x)) /\ Below W.heap.size W w') :
  Calls Tryz.prog 131 #[.slice A ys.length c, .func (.func g) #[] cap] w fun e w' => e = .returned (.bool (ys.any p)) /\ Below w.heap.size w w' := by
 have h1 := y5p g cap p A c ys w hR hl eg hcl;rw [y2w];obtain ⟨i, hi⟩ := zE (Dd.idxP p ys 0);rw [hi] at h1 ⊢;have H1 := jQ h1;clear h1 hcl hR hi eg;go_enter Tryz.func131, Tryz.ntmps131;go_wp2_with fail;refine H1.o.mono ?_;rintro e w2 ⟨rfl, hb⟩;have HB := jQ hb;clear hb;go_wp2_with fail;go_ret;exact ⟨rfl, HB.o⟩
theorem y3J (g : Nat) (cap : Array Value) (p : Dd.Pa -> Bool) (A : Option Addr) (c : Nat) (ys : List (Dd.Pa)) (w : World) (hR : Rd w w.heap.size 4 A ys.length (pcells ys)) (hl : ys.length <= 1000000)
  (eg : ∀ args w, (callFunc g args).run Tryz.prog w = .ok (.enter g args) w)
  (hcl : ∀ x ∈ ys, ∀ W, Below w.heap.size w W -> Calls Tryz.prog g (#[.agg #[.string ⟨x.name.toArray⟩, .int .i64 x.south, .int .i64 x.west, .int .i64 x.east]] ++ cap) W fun e w' => e = .returned (.bool (p x)) /\ Below W.heap.size W w') :
  Calls Tryz.prog 55 #[.slice A ys.length c, .func (.func g) #[] cap] w fun e w' => e = .returned (.int .i64 (Dd.idxP p ys 0)) /\ Below w.heap.size w w' := by
 have HCL := jQ hcl;have HR := jQ hR;clear hcl hR;go_enter Tryz.func55, Tryz.ntmps55;go_wp2_with fail;go_loopw [8] (fun I wr => ∃ k : Nat, k <= ys.length /\ I = .int .i64 k /\ (∀ j (h : j < ys.length), j < k -> p ys[j] = false) /\ Below w.heap.size w wr) (fun I _ => ys.length - (intOf I).toNat)
 case atStart => exact ⟨0, Nat.zero_le _, rfl, fun j h hj => absurd hj (by omega), Below.refl _ _⟩
 obtain ⟨k, hk, rfl, ha, hB⟩ := hrel;have HA := jQ ha;have HB := jQ hB;clear ha;by_cases hlt : k < ys.length
 ·obtain ⟨b, off, rfl, hb, e0, e1, e2, e3⟩ := (HR.o.below hB (Nat.le_refl _)).parcel hlt;have hc := HCL.o _ (List.getElem_mem hlt) wr hB;have hb2 : b < wr.heap.size := Nat.lt_of_lt_of_le hb hB.size;obtain ⟨x, hx⟩ := zE (ys[k]);rw [hx] at e0 e1 e2 e3 hc;have HX := jQ hx;have HC := jQ hc;rcases hp : p x with _ | _
  ·rw [hp] at hc;have HP := jQ hp;have HC := jQ hc;clear hc hp hx hB;go_wp2_with fail;refine HC.o.mono ?_;rintro e w2 ⟨rfl, hb3⟩;have HB2 := jQ (HB.o.trans (hb3.mono HB.o.size));clear hb3;go_wp2_with fail;go_roundw
   case rel =>
    refine ⟨k + 1, by omega, by go_num, fun j h hj => ?_, HB2.o⟩;by_cases e : j = k
    ·subst e;rw [HX.o];exact HP.o
    exact HA.o j h (by omega)
   case measure => simp [intOf]; omega
  rw [hp] at hc;have hres : Dd.idxP p ys 0 = k := Dd.y1h hlt (by rw [hx]; exact hp) (fun j hj => HA.o j (by omega) hj);have HRES := jQ hres;have HC := jQ hc;clear hc hp hx hB hres;go_wp2_with fail;refine HC.o.mono ?_;rintro e w2 ⟨rfl, hb3⟩;have HB2 := jQ (HB.o.trans (hb3.mono HB.o.size));clear hb3;go_wp2_with fail;go_ret;exact ⟨y02 HRES.o.symm, HB2.o⟩
 have hres : Dd.idxP p ys 0 = -1 := Dd.y1i (fun j h => HA.o j h (by omega));have HRES := jQ hres;obtain rfl : k = ys.length := by omega
 clear hres hB;go_wp2_with fail;go_ret;exact ⟨y02 HRES.o.symm, HB.o⟩
theorem y5d (g : Nat) (cap : Array Value) (p : Dd.Pa -> Bool) (A : Option Addr) (c : Nat) (ys : List (Dd.Pa)) (w : World) (hR : Rd w w.heap.size 4 A ys.length (pcells ys)) (hl : ys.length <= 1000000)
  (eg : ∀ args w, (callFunc g args).run Tryz.prog w = .ok (.enter g args) w)
  (hcl : ∀ x ∈ ys, ∀ W, Below w.heap.size w W -> Calls Tryz.prog g (#[.agg #[.string ⟨x.name.toArray⟩, .int .i64 x.south, .int .i64 x.west, .int .i64 x.east]] ++ cap) W fun e w' => e = .returned (.bool (p x)) /\ Below W.heap.size W w') :
  Calls Tryz.prog 133 #[.slice A ys.length c, .func (.func g) #[] cap] w fun e w' => e = .returned (.bool (ys.any p)) /\ Below w.heap.size w w' := by
 have h1 := y3J g cap p A c ys w hR hl eg hcl;rw [y2w];obtain ⟨i, hi⟩ := zE (Dd.idxP p ys 0);rw [hi] at h1 ⊢;have H1 := jQ h1;clear h1 hcl hR hi eg;go_enter Tryz.func133, Tryz.ntmps133;go_wp2_with fail;refine H1.o.mono ?_;rintro e w2 ⟨rfl, hb⟩;have HB := jQ hb;clear hb;go_wp2_with fail;go_ret;exact ⟨rfl, HB.o⟩
theorem y9s (g : Nat) (cap : Array Value) (p : Dd.Bd -> Bool) (A : Option Addr) (c : Nat) (ys : List (Dd.Bd)) (w : World) (hR : Rd w w.heap.size 4 A ys.length (bcells ys)) (hl : ys.length <= 1000000)
  (eg : ∀ args w, (callFunc g args).run Tryz.prog w = .ok (.enter g args) w)
  (hcl : ∀ x ∈ ys, ∀ W, Below w.heap.size w W -> Calls Tryz.prog g (#[.agg #[.int .i64 x.f, .int .i64 x.t, .int .i64 x.m, .int .i64 x.r]] ++ cap) W fun e w' => e = .returned (.bool (p x)) /\ Below W.heap.size W w') :
  Calls Tryz.prog 112 #[.slice A ys.length c, .func (.func g) #[] cap] w fun e w' => e = .returned (.int .i64 (Dd.idxP p ys 0)) /\ Below w.heap.size w w' := by
 have HCL := jQ hcl;have HR := jQ hR;clear hcl hR;go_enter Tryz.func112, Tryz.ntmps112;go_wp2_with fail;go_loopw [8] (fun I wr => ∃ k : Nat, k <= ys.length /\ I = .int .i64 k /\ (∀ j (h : j < ys.length), j < k -> p ys[j] = false) /\ Below w.heap.size w wr) (fun I _ => ys.length - (intOf I).toNat)
 case atStart => exact ⟨0, Nat.zero_le _, rfl, fun j h hj => absurd hj (by omega), Below.refl _ _⟩
 obtain ⟨k, hk, rfl, ha, hB⟩ := hrel;have HA := jQ ha;have HB := jQ hB;clear ha;by_cases hlt : k < ys.length
 ·obtain ⟨b, off, rfl, hb, e0, e1, e2, e3⟩ := (HR.o.below hB (Nat.le_refl _)).bound hlt;have hc := HCL.o _ (List.getElem_mem hlt) wr hB;have hb2 : b < wr.heap.size := Nat.lt_of_lt_of_le hb hB.size;obtain ⟨x, hx⟩ := zE (ys[k]);rw [hx] at e0 e1 e2 e3 hc;have HX := jQ hx;have HC := jQ hc;rcases hp : p x with _ | _
  ·rw [hp] at hc;have HP := jQ hp;have HC := jQ hc;clear hc hp hx hB;go_wp2_with fail;refine HC.o.mono ?_;rintro e w2 ⟨rfl, hb3⟩;have HB2 := jQ (HB.o.trans (hb3.mono HB.o.size));clear hb3;go_wp2_with fail;go_roundw
   case rel =>
    refine ⟨k + 1, by omega, by go_num, fun j h hj => ?_, HB2.o⟩;by_cases e : j = k
    ·subst e;rw [HX.o];exact HP.o
    exact HA.o j h (by omega)
   case measure => simp [intOf]; omega
  rw [hp] at hc;have hres : Dd.idxP p ys 0 = k := Dd.y1h hlt (by rw [hx]; exact hp) (fun j hj => HA.o j (by omega) hj);have HRES := jQ hres;have HC := jQ hc;clear hc hp hx hB hres;go_wp2_with fail;refine HC.o.mono ?_;rintro e w2 ⟨rfl, hb3⟩;have HB2 := jQ (HB.o.trans (hb3.mono HB.o.size));clear hb3;go_wp2_with fail;go_ret;exact ⟨y02 HRES.o.symm, HB2.o⟩
 have hres : Dd.idxP p ys 0 = -1 := Dd.y1i (fun j h => HA.o j h (by omega));have HRES := jQ hres;obtain rfl : k = ys.length := by omega
 clear hres hB;go_wp2_with fail;go_ret;exact ⟨y02 HRES.o.symm, HB.o⟩
theorem y9U (g : Nat) (cap : Array Value) (p : Dd.Bd -> Bool) (A : Option Addr) (c : Nat) (ys : List (Dd.Bd)) (w : World) (hR : Rd w w.heap.size 4 A ys.length (bcells ys)) (hl : ys.length <= 1000000)
  (eg : ∀ args w, (callFunc g args).run Tryz.prog w = .ok (.enter g args) w)
  (hcl : ∀ x ∈ ys, ∀ W, Below w.heap.size w W -> Calls Tryz.prog g (#[.agg #[.int .i64 x.f, .int .i64 x.t, .int .i64 x.m, .int .i64 x.r]] ++ cap) W fun e w' => e = .returned (.bool (p x)) /\ Below W.heap.size W w') :
  Calls Tryz.prog 62 #[.slice A ys.length c, .func (.func g) #[] cap] w fun e w' => e = .returned (.bool (ys.any p)) /\ Below w.heap.size w w' := by
 have h1 := y9s g cap p A c ys w hR hl eg hcl;rw [y2w];obtain ⟨i, hi⟩ := zE (Dd.idxP p ys 0);rw [hi] at h1 ⊢;have H1 := jQ h1;clear h1 hcl hR hi eg;go_enter Tryz.func62, Tryz.ntmps62;go_wp2_with fail;refine H1.o.mono ?_;rintro e w2 ⟨rfl, hb⟩;have HB := jQ hb;clear hb;go_wp2_with fail;go_ret;exact ⟨rfl, HB.o⟩
end

section
namespace Dd
theorem y1j (c : UInt8) : ∀ s : Bs, (c ∉ s /\ Lib.index s [c] = -1) ∨ ∃ a r, s = a ++ c :: r /\ c ∉ a /\ Lib.index s [c] = (a.length : Int)
  | [] => .inl ⟨by simp, by rw [Lib.index_one]; rfl⟩
  | b :: l => by
    rw [Lib.index_one];have ih := y1j c l;rw [Lib.index_one] at ih;by_cases h : b = c
    · subst h
      exact .inr ⟨[], l, rfl, by simp, by simp [Lib.indexByte]⟩
    have hb : (b == c) = false := by simpa using h
    rcases ih with ⟨h1, h2⟩ | ⟨a, r, h1, h2, h3⟩
    · exact .inl ⟨by simp [h1, Ne.symm h], by simp [Lib.indexByte, hb, h2]⟩
    refine .inr ⟨b :: a, r, by rw [h1]; rfl, by simp [h2, Ne.symm h], ?_⟩;have : ((a.length : Int) == -1) = false := by rw [beq_eq_false_iff_ne]; omega
    simp [Lib.indexByte, hb, h3, this]
theorem y9S : ∀ {a : Bs}, (35 : UInt8) ∉ a -> codeF a = a
  | [], _ => rfl
  | b :: a, h => by
    have hb : ¬ b = 35 := fun e => h (by simp [e]);have ih := y9S (a := a) (fun hm => h (List.mem_cons_of_mem _ hm));unfold codeF at ih ⊢;rw [List.takeWhile_cons_of_pos (by simpa using hb), ih]
theorem yB0 {a r : Bs} (h : (35 : UInt8) ∉ a) : codeF (a ++ 35 :: r) = a := by
 unfold codeF;rw [List.takeWhile_append_of_pos]
 ·simp
 intro x hx;simp only [decide_eq_true_eq];rintro rfl;exact h hx
theorem yB5 (s : Bs) : (Lib.cut s [35]).1 = codeF s := by
 unfold Lib.cut;rcases y1j 35 s with ⟨h1, h2⟩ | ⟨a, r, h1, h2, h3⟩
 ·rw [h2, if_neg (by decide), y9S h1]
 rw [h3, if_pos (by omega), h1, yB0 h2];simp
theorem y5e (c : UInt8) (s : Bs) : Lib.contains s [c] = decide (c ∈ s) := by
 unfold Lib.contains;rcases y1j c s with ⟨h1, h2⟩ | ⟨a, r, h1, h2, h3⟩
 ·rw [h2, decide_eq_false h1]; rfl
 rw [h3, decide_eq_true (show (0 : Int) <= a.length by omega), decide_eq_true (by rw [h1]; simp)]
theorem y50 : ∀ {a : Bs}, (10 : UInt8) ∉ a -> linesF a = [a]
  | [], _ => rfl
  | b :: a, h => by
    have hb : ¬ b = 10 := fun e => h (by simp [e]);rw [linesF, if_neg hb, y50 (a := a) (fun hm => h (List.mem_cons_of_mem _ hm))]
theorem y5t : ∀ {a r : Bs}, (10 : UInt8) ∉ a -> linesF (a ++ 10 :: r) = a :: linesF r
  | [], r, _ => by simp [linesF]
  | b :: a, r, h => by
    have hb : ¬ b = 10 := fun e => h (by simp [e]);rw [List.cons_append, linesF, if_neg hb, y5t (a := a) (fun hm => h (List.mem_cons_of_mem _ hm))]
theorem y1L (c : UInt8) : ∀ (fuel : Nat) (s : Bs), s.length < fuel -> Lib.countFrom [c] fuel s = s.count c
  | 0, s, h => by omega
  | fuel + 1, s, h => by
    rw [Lib.countFrom];rcases y1j c s with ⟨h1, h2⟩ | ⟨a, r, h1, h2, h3⟩
    · rw [h2, List.count_eq_zero.2 h1]; rfl
    have hne : ((a.length : Int) == -1) = false := by rw [beq_eq_false_iff_ne]; omega
    have hd : s.drop (a.length + 1) = r := by rw [h1]; simp
    rw [h3, hne];simp only [Bool.false_eq_true, if_false, Int.toNat_natCast, List.length_cons, List.length_nil, Nat.zero_add];rw [hd, y1L c fuel r (by rw [h1] at h; simp at h; omega), h1, List.count_append, List.count_eq_zero.2 h2, List.count_cons_self];omega
theorem y3Y : ∀ (n : Nat) (s : Bs), s.count 10 <= n -> Lib.splitK [10] 0 n s = linesF s
  | 0, s, h => by
    rw [y50 (List.count_eq_zero.1 (by omega))];rfl
  | n + 1, s, h => by
    rw [Lib.splitK];rcases y1j 10 s with ⟨h1, h2⟩ | ⟨a, r, h1, h2, h3⟩
    · rw [h2, y50 h1]; rfl
    have hne : ((a.length : Int) == -1) = false := by rw [beq_eq_false_iff_ne]; omega
    have hd : s.drop (a.length + 1) = r := by rw [h1]; simp
    have ht : s.take a.length = a := by rw [h1]; simp
    rw [h3, hne];simp only [Bool.false_eq_true, if_false, Int.toNat_natCast, List.length_cons, List.length_nil, Nat.zero_add, Nat.add_zero];rw [hd, ht, y3Y n r (by rw [h1, List.count_append, List.count_cons_self] at h; omega), h1, y5t h2]
theorem y7A (s : Bs) : (Lib.splitB ⟨#[10]⟩ 0 (Lib.countB ⟨s.toArray⟩ ⟨#[10]⟩) ⟨s.toArray⟩).map (·.data.toList) = linesF s := by
 rw [Lib.splitB_data];refine y3Y _ _ ?_;have : Lib.countB ⟨s.toArray⟩ ⟨#[10]⟩ = Lib.count s [10] := rfl;rw [this, Lib.count, y1L 10 _ _ (by omega)];exact Nat.le_refl _
theorem yAE (s : Bs) : (linesF s).length = s.count 10 + 1 := by
  induction s with
  | nil => rfl
  | cons b s ih =>
    rw [linesF];split
    · rename_i h
      subst h;rw [List.length_cons, ih, List.count_cons_self]
    rename_i h;rw [List.count_cons_of_ne (by simpa using h)];split
    · rename_i e
      rw [e] at ih;simp at ih
    rename_i x t e;rw [e] at ih;simpa using ih
theorem y79 (s : Bs) : ∀ x ∈ linesF s, x.length <= s.length := by
  induction s with
  | nil => intro x hx; simp [linesF] at hx; simp [hx]
  | cons b s ih =>
    intro x hx;rw [linesF] at hx;split at hx
    · rcases List.mem_cons.1 hx with rfl | hx
      · simp
      have := ih x hx; simp; omega
    split at hx
    · rw [List.mem_singleton.1 hx]; simp
    rename_i y t e;rcases List.mem_cons.1 hx with rfl | hx
    · have := ih y (by rw [e]; exact List.mem_cons_self); simp; omega
    have := ih x (by rw [e]; exact List.mem_cons_of_mem _ hx); simp; omega
theorem y8b (s : Bs) : wsum (fieldsF s) <= s.length + 1 := by
 have h1 : (codeF s).length <= s.length := (List.takeWhile_prefix _).length_le;have h2 : wsum (fieldsF s) <= wsum (Cs.cutF (codeF s)) := y7b (Cs.cutF (codeF s)) _;rw [yBo] at h2;omega
end Dd
end
end Go.Proofs.YtccikcpcfdjobaaGreatDoor
