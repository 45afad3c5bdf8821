/-
  What the claims of layer deed need of the texts DLf, DCut, DLc, DKee, DBix.
-/
import Derived.Test.YtcbeefbefapicaaGreatDoorBn41
import Derived.Test.YtcbeefbefapicaaGreatDoorBn04
import Derived.Test.YtcbeefbefapicaaGreatDoorBn30
import Derived.Test.YtcbeefbefapicaaGreatDoorBn18
import Derived.Test.YtcbeefbefapicaaGreatDoorBn16
import Derived.Test.YtcbeefbefapicaaGreatDoorBn09
set_option linter.unusedVariables false
set_option linter.unusedSimpArgs false
namespace Go.Proofs.YtcbeefbefapicaaGreatDoor
open Go.RowKit
set_option maxRecDepth 100000
structure Lf (w : World) (v : Fv) (f : Dd.Fd) (W : World) : Prop where
 b : Below w.heap.size w W
 e : Env W
 k : Bk W w.heap.size 27 #[.slice v.a1 f.st.length v.c1, .slice v.a2 f.li.length v.c2, .slice v.a3 f.pa.length v.c3, .slice v.a4 f.va.length v.c4]
 r : FRd W w.heap.size v f
theorem Lf.next {w W W' : World} {v : Fv} {f : Dd.Fd} (h : Lf w v f W) (hb : Below W.heap.size W W') : Lf w v f W' :=
 ⟨h.b.trans (hb.mono h.b.size), h.e.step hb, h.k.below hb h.k.lt, h.r.below hb h.b.size⟩
theorem Lf.rd {w W : World} {v : Fv} {f : Dd.Fd} (h : Lf w v f W) : FRd W W.heap.size v f := h.r.more h.b.size
theorem Lf.new {w : World} {v : Fv} {f : Dd.Fd} (hE : Env w) (hF : FRd w w.heap.size v f) : Lf w v f (w.alloc (.cells #[.slice v.a1 f.st.length v.c1, .slice v.a2 f.li.length v.c2, .slice v.a3 f.pa.length v.c3, .slice v.a4 f.va.length v.c4] 27)) :=
 have hb := (Below.refl w.heap.size w).alloc (Nat.le_refl _) (.cells #[.slice v.a1 f.st.length v.c1, .slice v.a2 f.li.length v.c2, .slice v.a3 f.pa.length v.c3, .slice v.a4 f.va.length v.c4] 27)
 ⟨hb, hE.step hb, Bk.new _ _ _, hF.below hb (Nat.le_refl _)⟩
theorem Lf.cells {w W : World} {v : Fv} {f : Dd.Fd} (h : Lf w v f W) : W.cell? ⟨w.heap.size, 0, none⟩ = some (.slice v.a1 f.st.length v.c1) ∧ W.cell? ⟨w.heap.size, 1, none⟩ = some (.slice v.a2 f.li.length v.c2) ∧
  W.cell? ⟨w.heap.size, 2, none⟩ = some (.slice v.a3 f.pa.length v.c3) ∧ W.cell? ⟨w.heap.size, 3, none⟩ = some (.slice v.a4 f.va.length v.c4) ∧ w.heap.size < W.heap.size :=
 ⟨(h.k.cell 0).trans rfl, (h.k.cell 1).trans rfl, (h.k.cell 2).trans rfl, (h.k.cell 3).trans rfl, h.k.lt⟩
structure Lv (w : World) (v : Fv) (f : Dd.Fd) (W : World) : Prop where
 b : Below w.heap.size w W
 e : Env W
 k : Bk W w.heap.size 27 #[.slice v.a1 f.st.length v.c1, .slice v.a2 f.li.length v.c2, .slice v.a3 f.pa.length v.c3, .slice v.a4 f.va.length v.c4]
 r : FRw W W.heap.size v f
theorem FRw.more {w : World} {B B' : Nat} {v : Fv} {f : Dd.Fd} (h : FRw w B v f) (hB : B ≤ B') : FRw w B' v f :=
 ⟨h.st.more hB, h.li.more hB, h.pa.more hB, h.va.more hB, h.k1, h.k2, h.k3, h.l1, h.l2, h.l3, h.l4, h.n1, h.n2, h.n3⟩
theorem Lv.new {w : World} {v : Fv} {f : Dd.Fd} (hE : Env w) (hF : FRw w w.heap.size v f) : Lv w v f (w.alloc (.cells #[.slice v.a1 f.st.length v.c1, .slice v.a2 f.li.length v.c2, .slice v.a3 f.pa.length v.c3, .slice v.a4 f.va.length v.c4] 27)) :=
 have hb := (Below.refl w.heap.size w).alloc (Nat.le_refl _) (.cells #[.slice v.a1 f.st.length v.c1, .slice v.a2 f.li.length v.c2, .slice v.a3 f.pa.length v.c3, .slice v.a4 f.va.length v.c4] 27)
 ⟨hb, hE.step hb, Bk.new _ _ _, (hF.below hb (Nat.le_refl _)).more hb.size⟩
theorem Lv.next {w W W' : World} {v : Fv} {f : Dd.Fd} (h : Lv w v f W) (hb : Below W.heap.size W W') : Lv w v f W' :=
 ⟨h.b.trans (hb.mono h.b.size), h.e.step hb, h.k.below hb h.k.lt, (h.r.below hb (Nat.le_refl _)).more hb.size⟩
end Go.Proofs.YtcbeefbefapicaaGreatDoor

namespace Go.Proofs.YtcbeefbefapicaaGreatDoor
open Go.RowKit
theorem wp_cutW {c : Code} {P : Program} {Q : Exit → Act → World → Prop} {a : Act} {W : World} (S : World → Prop) (h : S W) (k : ∀ W', S W' → c.wp P Q a W') : c.wp P Q a W := k W h
theorem ca_tree {W : World} {g : Nat} {z : Dd.Ca} (h : Bk W g 42 #[.int .u8 z.k, .int .i64 z.l, .int .i64 z.o, .int .i64 z.a, .int .i64 z.b, .int .i64 z.s, .int .i64 z.e, .int .i64 z.c.b, .int .i64 z.c.n, .int .i64 z.c.l, .int .i64 z.c.y, .int .i64 z.c.w, .int .i64 z.c.s]) :
  (((W.cell? ⟨g, 0, none⟩ = some (.int .u8 z.k) ∧ W.cell? ⟨g, 1, none⟩ = some (.int .i64 z.l) ∧ W.cell? ⟨g, 2, none⟩ = some (.int .i64 z.o)) ∧ (W.cell? ⟨g, 3, none⟩ = some (.int .i64 z.a) ∧ W.cell? ⟨g, 4, none⟩ = some (.int .i64 z.b) ∧ W.cell? ⟨g, 5, none⟩ = some (.int .i64 z.s))) ∧ (W.cell? ⟨g, 6, none⟩ = some (.int .i64 z.e) ∧ W.cell? ⟨g, 7, none⟩ = some (.int .i64 z.c.b) ∧ W.cell? ⟨g, 8, none⟩ = some (.int .i64 z.c.n)) ∧ (W.cell? ⟨g, 9, none⟩ = some (.int .i64 z.c.l) ∧ W.cell? ⟨g, 10, none⟩ = some (.int .i64 z.c.y) ∧ W.cell? ⟨g, 11, none⟩ = some (.int .i64 z.c.w) ∧ W.cell? ⟨g, 12, none⟩ = some (.int .i64 z.c.s))) ∧ g < W.heap.size :=
 ⟨⟨⟨⟨(h.cell 0).trans rfl, (h.cell 1).trans rfl, (h.cell 2).trans rfl⟩, (h.cell 3).trans rfl, (h.cell 4).trans rfl, (h.cell 5).trans rfl⟩, ⟨(h.cell 6).trans rfl, (h.cell 7).trans rfl, (h.cell 8).trans rfl⟩, (h.cell 9).trans rfl, (h.cell 10).trans rfl, (h.cell 11).trans rfl, (h.cell 12).trans rfl⟩, h.lt⟩
end Go.Proofs.YtcbeefbefapicaaGreatDoor

namespace Go.Proofs.YtcbeefbefapicaaGreatDoor
open Go.RowKit
set_option maxRecDepth 100000
structure Lc (w : World) (v : Fv) (f : Dd.Fd) (x : Dd.Ca) (A : Option Addr) (y : List Int) (W : World) : Prop where
 b : Below w.heap.size w W
 e : Env W
 kF : Bk W w.heap.size 27 #[.slice v.a1 f.st.length v.c1, .slice v.a2 f.li.length v.c2, .slice v.a3 f.pa.length v.c3, .slice v.a4 f.va.length v.c4]
 kC : Bk W (w.heap.size + 1) 42 #[.int .u8 x.k, .int .i64 x.l, .int .i64 x.o, .int .i64 x.a, .int .i64 x.b, .int .i64 x.s, .int .i64 x.e, .int .i64 x.c.b, .int .i64 x.c.n, .int .i64 x.c.l, .int .i64 x.c.y, .int .i64 x.c.w, .int .i64 x.c.s]
 r : FRw W w.heap.size v f
 rY : Rd W w.heap.size 1 A y.length (icells y)
section
variable {w W W' : World} {v : Fv} {f : Dd.Fd} {x : Dd.Ca} {A : Option Addr} {y : List Int}
theorem Lc.next (h : Lc w v f x A y W) (hb : Below W.heap.size W W') : Lc w v f x A y W' :=
 ⟨h.b.trans (hb.mono h.b.size), h.e.step hb, h.kF.below hb h.kF.lt, h.kC.below hb h.kC.lt, h.r.below hb h.b.size, h.rY.below hb h.b.size⟩
theorem Lc.raw (h : Lc w v f x A y W) : FRw W W.heap.size v f := h.r.more h.b.size
theorem Lc.rd (h : Lc w v f x A y W) (hv : Dd.vastF f = false) : FRd W W.heap.size v f := h.raw.small hv
theorem Lc.yy (h : Lc w v f x A y W) : Rd W W.heap.size 1 A y.length (icells y) := h.rY.more h.b.size
theorem Lc.new (hE : Env w) (hF : FRw w w.heap.size v f) (hY : Rd w w.heap.size 1 A y.length (icells y)) : Lc w v f x A y ((w.alloc (.cells #[.slice v.a1 f.st.length v.c1, .slice v.a2 f.li.length v.c2, .slice v.a3 f.pa.length v.c3, .slice v.a4 f.va.length v.c4] 27)).alloc (.cells #[.int .u8 x.k, .int .i64 x.l, .int .i64 x.o, .int .i64 x.a, .int .i64 x.b, .int .i64 x.s, .int .i64 x.e, .int .i64 x.c.b, .int .i64 x.c.n, .int .i64 x.c.l, .int .i64 x.c.y, .int .i64 x.c.w, .int .i64 x.c.s] 42)) := by
 obtain ⟨w1, h1⟩ : ∃ w1, w.alloc (.cells #[.slice v.a1 f.st.length v.c1, .slice v.a2 f.li.length v.c2, .slice v.a3 f.pa.length v.c3, .slice v.a4 f.va.length v.c4] 27) = w1 := ⟨_, rfl⟩
 have z1 : w1.heap.size = w.heap.size + 1 := by rw [← h1]; simp
 have b1 : Below w.heap.size w w1 := h1 ▸ (Below.refl w.heap.size w).alloc (Nat.le_refl _) _
 have k1 : Bk w1 w.heap.size 27 #[.slice v.a1 f.st.length v.c1, .slice v.a2 f.li.length v.c2, .slice v.a3 f.pa.length v.c3, .slice v.a4 f.va.length v.c4] := h1 ▸ Bk.new _ _ _
 rw [h1]
 have b2 : Below w1.heap.size w1 (w1.alloc (.cells #[.int .u8 x.k, .int .i64 x.l, .int .i64 x.o, .int .i64 x.a, .int .i64 x.b, .int .i64 x.s, .int .i64 x.e, .int .i64 x.c.b, .int .i64 x.c.n, .int .i64 x.c.l, .int .i64 x.c.y, .int .i64 x.c.w, .int .i64 x.c.s] 42)) := (Below.refl _ _).alloc (Nat.le_refl _) _
 have b3 := b1.trans (b2.mono (by omega))
 exact ⟨b3, hE.step b3, k1.below b2 (by omega), by rw [← z1]; exact Bk.new _ _ _, hF.below b3 (Nat.le_refl _), hY.below b3 (Nat.le_refl _)⟩
theorem Lc.tree (h : Lc w v f x A y W) : ((((W.cell? ⟨w.heap.size, 0, none⟩ = some (.slice v.a1 f.st.length v.c1) ∧ W.cell? ⟨w.heap.size, 1, none⟩ = some (.slice v.a2 f.li.length v.c2)) ∧
    (W.cell? ⟨w.heap.size, 2, none⟩ = some (.slice v.a3 f.pa.length v.c3) ∧ W.cell? ⟨w.heap.size, 3, none⟩ = some (.slice v.a4 f.va.length v.c4))) ∧
    ((W.cell? ⟨w.heap.size + 1, 0, none⟩ = some (.int .u8 x.k) ∧ W.cell? ⟨w.heap.size + 1, 1, none⟩ = some (.int .i64 x.l)) ∧ (W.cell? ⟨w.heap.size + 1, 2, none⟩ = some (.int .i64 x.o) ∧ W.cell? ⟨w.heap.size + 1, 3, none⟩ = some (.int .i64 x.a)))) ∧
    ((W.cell? ⟨w.heap.size + 1, 4, none⟩ = some (.int .i64 x.b) ∧ W.cell? ⟨w.heap.size + 1, 5, none⟩ = some (.int .i64 x.s)) ∧ (W.cell? ⟨w.heap.size + 1, 6, none⟩ = some (.int .i64 x.e) ∧ W.cell? ⟨w.heap.size + 1, 7, none⟩ = some (.int .i64 x.c.b))) ∧
    ((W.cell? ⟨w.heap.size + 1, 8, none⟩ = some (.int .i64 x.c.n) ∧ W.cell? ⟨w.heap.size + 1, 9, none⟩ = some (.int .i64 x.c.l)) ∧ (W.cell? ⟨w.heap.size + 1, 10, none⟩ = some (.int .i64 x.c.y) ∧ W.cell? ⟨w.heap.size + 1, 11, none⟩ = some (.int .i64 x.c.w) ∧ W.cell? ⟨w.heap.size + 1, 12, none⟩ = some (.int .i64 x.c.s)))) ∧ w.heap.size + 1 < W.heap.size :=
  ⟨⟨⟨⟨⟨(h.kF.cell 0).trans rfl, (h.kF.cell 1).trans rfl⟩, (h.kF.cell 2).trans rfl, (h.kF.cell 3).trans rfl⟩, ⟨(h.kC.cell 0).trans rfl, (h.kC.cell 1).trans rfl⟩, (h.kC.cell 2).trans rfl, (h.kC.cell 3).trans rfl⟩,
    ⟨⟨(h.kC.cell 4).trans rfl, (h.kC.cell 5).trans rfl⟩, (h.kC.cell 6).trans rfl, (h.kC.cell 7).trans rfl⟩, ⟨(h.kC.cell 8).trans rfl, (h.kC.cell 9).trans rfl⟩, (h.kC.cell 10).trans rfl, (h.kC.cell 11).trans rfl, (h.kC.cell 12).trans rfl⟩, h.kC.lt⟩
end
theorem Lc.far {w W : World} {v : Fv} {f : Dd.Fd} {x : Dd.Ca} {A : Option Addr} {y : List Int} (h : Lc w v f x A y W) (hE : Env w) {g : Nat} (hg : w.heap.size + 1 < g) (i : Nat) (u : Value) : Lc w v f x A y (W.setCell ⟨g, i, none⟩ u) :=
 have hb : Below w.heap.size W (W.setCell ⟨g, i, none⟩ u) := (Below.refl _ _).setCell (p := ⟨g, i, none⟩) (by simp; omega) u
 ⟨h.b.trans hb, hE.step (h.b.trans hb), h.kF.far (show w.heap.size ≠ g by omega) u, h.kC.far (show w.heap.size + 1 ≠ g by omega) u, h.r.below hb (Nat.le_refl _), h.rY.below hb (Nat.le_refl _)⟩
theorem Bk.setA {W : World} {g : Nat} {t : TypeId} {cs : Array Value} (h : Bk W g t cs) (i : Nat) (u : Value) (cs' : Array Value) (he : cs.setIfInBounds i u = cs') : Bk (W.setCell ⟨g, i, none⟩ u) g t cs' := he ▸ h.set i u
end Go.Proofs.YtcbeefbefapicaaGreatDoor

namespace Go.Proofs.YtcbeefbefapicaaGreatDoor
open Go.RowKit
set_option maxRecDepth 100000
def Dd.bndd (y : List Int) : Bool := y.all fun a => decide (-1000000000 ≤ a) && decide (a ≤ 1000000000)
theorem Dd.bndd_at {y : List Int} (h : Dd.bndd y = true) {j : Nat} (hj : j < y.length) : -1000000000 ≤ y[j] ∧ y[j] ≤ 1000000000 := by
 have := List.all_eq_true.1 h _ (List.getElem_mem hj)
 simpa using this
set_option maxHeartbeats 4000000 in
theorem bounded_any (A : Option Addr) (c : Nat) (y : List Int) (w : World) (hY : Rd w w.heap.size 1 A y.length (icells y)) (hyl : y.length ≤ 1000000) :
  Calls Tryz.prog 13 #[.slice A y.length c] w fun e w' => e = .returned (.bool (Dd.bndd y)) ∧ Below w.heap.size w w' := by
 obtain ⟨R, hR⟩ : ∃ R, Dd.bndd y = R := ⟨_, rfl⟩
 rw [hR]
 have HR := Lib.hid hR
 have HYD := Lib.hid hY
 clear hR hY
 go_enter Tryz.func13, Tryz.ntmps13
 go_wp2_with fail
 go_loop [3] (fun I => ∃ k : Nat, k ≤ y.length ∧ I = .int .i64 k ∧ ∀ j (h : j < y.length), j < k → -1000000000 ≤ y[j] ∧ y[j] ≤ 1000000000) (fun I => y.length - (intOf I).toNat)
 case atStart => exact ⟨0, Nat.zero_le _, rfl, fun j h hj => absurd hj (by omega)⟩
 case round =>
  obtain ⟨k, hk, rfl, ha⟩ := hrel
  have HA := Lib.hid ha
  clear ha
  by_cases hlt : k < y.length
  ·obtain ⟨b, off, ha1, hb, e0⟩ := HYD.out.num hlt
   obtain ⟨x, hx⟩ : ∃ x, y[k] = x := ⟨_, rfl⟩
   rw [hx] at e0
   have HX := Lib.hid hx
   have hno : (x < -1000000000 ∨ 1000000000 < x) → R = false := by
    intro h
    rw [← HR.out, ← Bool.not_eq_true]
    intro h2
    have := Dd.bndd_at h2 hlt
    rw [HX.out] at this
    omega
   have HNO := Lib.hid hno
   clear hno hx
   rw [ha1]
   by_cases c1 : x < -1000000000
   ·have d1 : decide (x < -1000000000) = true := decide_eq_true c1
    have HN := Lib.hid (HNO.out (Or.inl c1))
    clear HNO c1
    go_wp2_with fail
    go_ret
    exact ⟨ret_bool HN.out.symm, Below.refl _ _⟩
   by_cases c2 : 1000000000 < x
   ·have d1 : decide (x < -1000000000) = false := decide_eq_false c1
    have d2 : decide (x > 1000000000) = true := decide_eq_true (by omega)
    have HN := Lib.hid (HNO.out (Or.inr c2))
    clear HNO c1 c2
    go_wp2_with fail
    go_ret
    exact ⟨ret_bool HN.out.symm, Below.refl _ _⟩
   ·have d1 : decide (x < -1000000000) = false := decide_eq_false c1
    have d2 : decide (x > 1000000000) = false := decide_eq_false (by omega)
    have HIN := Lib.hid (show -1000000000 ≤ x ∧ x ≤ 1000000000 by omega)
    clear HNO c1 c2
    go_wp2_with fail
    go_round
    case rel =>
     refine ⟨k + 1, by omega, by go_num, fun j h hj => ?_⟩
     by_cases e : j = k
     ·subst e
      rw [HX.out]
      exact HIN.out
     ·exact HA.out j h (by omega)
    case measure => simp [intOf]; omega
  ·have HRT := Lib.hid (show R = true by
    rw [← HR.out]
    unfold Dd.bndd
    rw [List.all_eq_true]
    intro x hx
    obtain ⟨j, hj, rfl⟩ := List.getElem_of_mem hx
    have := HA.out j hj (by omega)
    simpa using this)
   go_wp2_with fail
   go_ret
   exact ⟨ret_bool HRT.out.symm, Below.refl _ _⟩
def Dd.keepsL (y : List Int) (bs : List Dd.Bd) : Bool := bs.all (Dd.keepsI y)
set_option maxHeartbeats 8000000 in
theorem keeps_any (A : Option Addr) (c : Nat) (bs : List Dd.Bd) (A2 : Option Addr) (c2 : Nat) (y : List Int) (w : World) (hR : Rd w w.heap.size 4 A bs.length (bcells bs)) (hY : Rd w w.heap.size 1 A2 y.length (icells y)) (hyl : y.length ≤ 1000000) (hbl : bs.length ≤ 9223372036854775807) (hbd : Dd.bndd y = true) :
  Calls Tryz.prog 16 #[.slice A bs.length c, .slice A2 y.length c2] w fun e w' => e = .returned (.bool (Dd.keepsL y bs)) ∧ Below w.heap.size w w' := by
 obtain ⟨R, hRR⟩ : ∃ R, Dd.keepsL y bs = R := ⟨_, rfl⟩
 rw [hRR]
 have HR := Lib.hid hRR
 have HRD := Lib.hid hR
 have HYD := Lib.hid hY
 have HYB := Lib.hid (fun j (h : j < y.length) => Dd.bndd_at hbd h)
 clear hRR hR hY hbd
 go_enter Tryz.func16, Tryz.ntmps16
 go_wp2_with fail
 go_loopw [5] (fun i wr => ∃ k : Nat, k ≤ bs.length ∧ i = .int .i64 k ∧ (∀ j (h : j < bs.length), j < k → Dd.keepsI y bs[j] = true) ∧ Below w.heap.size w wr)
  (fun i _ => bs.length - (intOf i).toNat)
 case atStart => exact ⟨0, Nat.zero_le _, rfl, (fun j _ hj => absurd hj (by omega)), Below.refl _ _⟩
 case round =>
  obtain ⟨k, hk, rfl, ha, hB⟩ := hrel
  have HA := Lib.hid ha
  clear ha
  by_cases hkl : k < bs.length
  ·obtain ⟨b, off, hA, hb, e0, e1, e2, e3⟩ := (HRD.out.below hB (Nat.le_refl _)).bound hkl
   obtain ⟨x, hx⟩ : ∃ x, bs[k] = x := ⟨_, rfl⟩
   rw [hx] at e0 e1 e2 e3
   have HX := Lib.hid hx
   obtain ⟨f, t, m, r⟩ := x
   dsimp only at e0 e1 e2 e3
   have HNO := Lib.hid (show Dd.keepsI y ⟨f, t, m, r⟩ = false → R = false by
    intro h
    rw [← HR.out, ← Bool.not_eq_true]
    intro h2
    have := List.all_eq_true.1 h2 _ (List.getElem_mem hkl)
    rw [HX.out, h] at this
    cases this)
   have hbW : b < wr.heap.size := by have := hB.size; omega
   have HBA := Lib.hid (hB.alloc hB.size (.cells #[.int .i64 f, .int .i64 t, .int .i64 m, .int .i64 r] 77))
   rw [hA]
   clear hx hA
   by_cases c1 : f < 0
   ·have d1 : decide (f < 0) = true := decide_eq_true c1
    have HN := Lib.hid (HNO.out (by unfold Dd.keepsI; rw [decide_eq_false (by dsimp only; omega)]; simp))
    clear HNO c1 hB
    go_wp2_with fail
    go_quiet (fail)
    go_wp2_with fail
    go_ret
    exact ⟨ret_bool HN.out.symm, ⟨HBA.out.os, HBA.out.tape, HBA.out.output, HBA.out.size, HBA.out.block⟩⟩
   have d1 : decide (f < 0) = false := decide_eq_false c1
   by_cases c2 : (y.length : Int) ≤ f
   ·have d2 : decide (f ≥ (y.length : Int)) = true := decide_eq_true c2
    have HN := Lib.hid (HNO.out (by unfold Dd.keepsI; rw [decide_eq_false (by dsimp only; omega)]; simp))
    clear HNO c1 c2 hB
    go_wp2_with fail
    go_quiet (fail)
    go_wp2_with fail
    go_ret
    exact ⟨ret_bool HN.out.symm, ⟨HBA.out.os, HBA.out.tape, HBA.out.output, HBA.out.size, HBA.out.block⟩⟩
   have d2 : decide (f ≥ (y.length : Int)) = false := decide_eq_false c2
   by_cases c3 : t < 0
   ·have d3 : decide (t < 0) = true := decide_eq_true c3
    have HN := Lib.hid (HNO.out (by unfold Dd.keepsI; rw [decide_eq_false (p := 0 ≤ t ∧ t < (y.length : Int)) (by omega)]; simp))
    clear HNO c1 c2 c3 hB
    go_wp2_with fail
    go_quiet (fail)
    go_wp2_with fail
    go_ret
    exact ⟨ret_bool HN.out.symm, ⟨HBA.out.os, HBA.out.tape, HBA.out.output, HBA.out.size, HBA.out.block⟩⟩
   have d3 : decide (t < 0) = false := decide_eq_false c3
   by_cases c4 : (y.length : Int) ≤ t
   ·have d4 : decide (t ≥ (y.length : Int)) = true := decide_eq_true c4
    have HN := Lib.hid (HNO.out (by unfold Dd.keepsI; rw [decide_eq_false (p := 0 ≤ t ∧ t < (y.length : Int)) (by omega)]; simp))
    clear HNO c1 c2 c3 c4 hB
    go_wp2_with fail
    go_quiet (fail)
    go_wp2_with fail
    go_ret
    exact ⟨ret_bool HN.out.symm, ⟨HBA.out.os, HBA.out.tape, HBA.out.output, HBA.out.size, HBA.out.block⟩⟩
   have d4 : decide (t ≥ (y.length : Int)) = false := decide_eq_false c4
   obtain ⟨p, rfl⟩ : ∃ p : Nat, f = p := ⟨f.toNat, by omega⟩
   obtain ⟨q, rfl⟩ : ∃ q : Nat, t = q := ⟨t.toNat, by omega⟩
   have hpy : p < y.length := by omega
   have hqy : q < y.length := by omega
   obtain ⟨b2, off2, hA2, hb2, yp⟩ := (HYD.out.below hB (Nat.le_refl _)).num hpy
   obtain ⟨b3, off3, hA3, hb3, yq⟩ := (HYD.out.below hB (Nat.le_refl _)).num hqy
   rw [hA2] at hA3
   obtain ⟨rfl, rfl⟩ : b2 = b3 ∧ off2 = off3 := by simpa using hA3
   obtain ⟨bp1, bp2⟩ := HYB.out p hpy
   obtain ⟨bq1, bq2⟩ := HYB.out q hqy
   have hkb : Dd.keepsI y ⟨p, q, m, r⟩ = decide (y[q] - y[p] ≤ m) := by
    have hp : Dd.at_ y (p : Int) = y[p] := by unfold Dd.at_; rw [Int.toNat_natCast, List.getElem?_eq_getElem hpy]; rfl
    have hq : Dd.at_ y (q : Int) = y[q] := by unfold Dd.at_; rw [Int.toNat_natCast, List.getElem?_eq_getElem hqy]; rfl
    unfold Dd.keepsI
    dsimp only
    rw [decide_eq_true (p := 0 ≤ (p : Int) ∧ (p : Int) < (y.length : Int)) (by omega), decide_eq_true (p := 0 ≤ (q : Int) ∧ (q : Int) < (y.length : Int)) (by omega)]
    show decide (Dd.at_ y (q : Int) - Dd.at_ y (p : Int) ≤ m) = _
    simp only [hp, hq]
   obtain ⟨vp, hvp⟩ : ∃ v, y[p] = v := ⟨_, rfl⟩
   obtain ⟨vq, hvq⟩ : ∃ v, y[q] = v := ⟨_, rfl⟩
   rw [hvp] at yp bp1 bp2 hkb
   rw [hvq] at yq bq1 bq2 hkb
   have hpi : (p : Int) < (y.length : Int) := by omega
   have hqi : (q : Int) < (y.length : Int) := by omega
   have hbW2 : b2 < wr.heap.size := by have := hB.size; omega
   have hwr : IntKind.i64.wrap (vq - vp) = vq - vp := IntWalk.i64_in _ (by omega)
   rw [hA2]
   by_cases c5 : m < vq - vp
   ·have d5 : decide (vq - vp > m) = true := decide_eq_true c5
    have HN := Lib.hid (HNO.out (by rw [hkb]; exact decide_eq_false (by omega)))
    clear HNO c1 c2 c3 c4 c5 hB hvp hvq hkb hA2 hA3
    go_wp2_with fail
    go_quiet (fail)
    go_wp2_with fail
    go_ret
    exact ⟨ret_bool HN.out.symm, ⟨HBA.out.os, HBA.out.tape, HBA.out.output, HBA.out.size, HBA.out.block⟩⟩
   ·have d5 : decide (vq - vp > m) = false := decide_eq_false c5
    have HKT := Lib.hid (show Dd.keepsI y ⟨p, q, m, r⟩ = true by rw [hkb]; exact decide_eq_true (by omega))
    clear HNO c1 c2 c3 c4 c5 hB hvp hvq hkb hA2 hA3
    go_wp2_with fail
    go_quiet (fail)
    go_wp2_with fail
    go_roundw
    case rel =>
     refine ⟨k + 1, by omega, by go_num, fun j hj hjk => ?_, ⟨HBA.out.os, HBA.out.tape, HBA.out.output, HBA.out.size, HBA.out.block⟩⟩
     by_cases e : j = k
     ·subst e
      rw [HX.out]
      exact HKT.out
     ·exact HA.out j hj (by omega)
    case measure => simp [intOf]; omega
  ·have HRT := Lib.hid (show R = true by
    rw [← HR.out]
    unfold Dd.keepsL
    rw [List.all_eq_true]
    intro x hx
    obtain ⟨j, hj, rfl⟩ := List.getElem_of_mem hx
    exact HA.out j hj (by omega))
   have HB := Lib.hid hB
   clear hB
   go_wp2_with fail
   go_ret
   exact ⟨ret_bool HRT.out.symm, HB.out⟩
end Go.Proofs.YtcbeefbefapicaaGreatDoor

namespace Go.Proofs.YtcbeefbefapicaaGreatDoor
open Go.RowKit
set_option maxRecDepth 100000
def Dd.foundAt (n : Int) (r : Bool) : Prop := decide (n ≥ 0) = r
set_option maxHeartbeats 4000000 in
theorem bdIndex_any (A : Option Addr) (c : Nat) (ys : List Dd.Bd) (x : Dd.Bd) (w : World) (hR : Rd w w.heap.size 4 A ys.length (bcells ys)) (hl : ys.length ≤ 1000000) :
  Calls Tryz.prog 81 #[.slice A ys.length c, .agg #[.int .i64 x.f, .int .i64 x.t, .int .i64 x.m, .int .i64 x.r]] w fun e w' => (∃ n : Int, e = .returned (.int .i64 n) ∧ Dd.foundAt n (decide (x ∈ ys))) ∧ Below w.heap.size w w' := by
 have HR := Lib.hid hR
 obtain ⟨r, hr⟩ : ∃ r, decide (x ∈ ys) = r := ⟨_, rfl⟩
 rw [hr]
 have HRR := Lib.hid hr
 clear hR hr
 go_enter Tryz.func81, Tryz.ntmps81
 go_upto_region 1 with fail
 refine wp_cutW (fun V => Below w.heap.size w V ∧ Bk V w.heap.size 77 #[.int .i64 x.f, .int .i64 x.t, .int .i64 x.m, .int .i64 x.r]) ⟨(Below.refl w.heap.size w).alloc (Nat.le_refl _) _, Bk.new w 77 _⟩ ?_
 rintro W ⟨hb0, hk0⟩
 have HB := Lib.hid hb0
 have HK := Lib.hid hk0
 clear hb0 hk0
 go_wp2_with fail
 go_loopw [8] (fun I wr => ∃ k : Nat, k ≤ ys.length ∧ I = .int .i64 k ∧ (∀ j (h : j < ys.length), j < k → x ≠ ys[j]) ∧ Below w.heap.size w wr ∧ Bk wr w.heap.size 77 #[.int .i64 x.f, .int .i64 x.t, .int .i64 x.m, .int .i64 x.r]) (fun I _ => ys.length - (intOf I).toNat)
 case atStart => exact ⟨0, Nat.zero_le _, rfl, (fun j h hj => absurd hj (by omega)), HB.out, HK.out⟩
 case round =>
  obtain ⟨k, hk, rfl, ha, hB, hK⟩ := hrel
  have HA := Lib.hid ha
  have HBr := Lib.hid hB
  have HKr := Lib.hid hK
  have c0 := (hK.cell 0).trans rfl
  have c1 := (hK.cell 1).trans rfl
  have c2 := (hK.cell 2).trans rfl
  have c3 := (hK.cell 3).trans rfl
  have cl := hK.lt
  clear ha hB hK HB HK
  by_cases hlt : k < ys.length
  ·obtain ⟨b, off, rfl, hb, e0, e1, e2, e3⟩ := (HR.out.below HBr.out (Nat.le_refl _)).bound hlt
   have hb2 : b < wr.heap.size := Nat.lt_of_lt_of_le hb HBr.out.size
   obtain ⟨z, hz⟩ : ∃ z, ys[k] = z := ⟨_, rfl⟩
   rw [hz] at e0 e1 e2 e3
   have HZ := Lib.hid hz
   by_cases hxz : x = z
   ·have HIN := Lib.hid (show decide (x ∈ ys) = true from decide_eq_true (by rw [hxz, ← hz]; exact List.getElem_mem hlt))
    subst hxz
    clear hz
    go_wp2_with fail
    go_quiet (fail)
    go_wp2_with fail
    go_ret
    exact ⟨⟨_, rfl, by rw [← HRR.out, HIN.out]; exact decide_eq_true (by omega)⟩, below_drewN HBr.out _⟩
   ·have HXZ := Lib.hid hxz
    have hne : ∀ Y : Prop, x.f = z.f → x.t = z.t → x.m = z.m → x.r = z.r → Y := fun Y h1 h2 h3 h4 => by
     obtain ⟨x1, x2, x3, x4⟩ := x
     obtain ⟨z1, z2, z3, z4⟩ := z
     dsimp only at h1 h2 h3 h4
     subst h1 h2 h3 h4
     exact absurd rfl hxz
    have HNE := Lib.hid hne
    clear hz hxz hne
    go_wp2_with fail
    refine wp_region_quiet_lit (by kernel_rfl) (by kernel_rfl) ?_
    repeat (quiet_step (fail))
    refine wpQuiet_step (fun K hK => ?_)
    rw [if_pos (by rfl)]
    refine ⟨.bool false, fun w' hw' => ?_, hK _ ?_⟩
    ·go_simp
     by_cases q1 : x.f = z.f
     ·by_cases q2 : x.t = z.t
      ·by_cases q3 : x.m = z.m
       ·by_cases q4 : x.r = z.r
        ·exact HNE.out _ q1 q2 q3 q4
        ·simp [q1, q2, q3, q4]
       ·simp [q1, q2, q3]
      ·simp [q1, q2]
     ·simp [q1]
    clear hK K
    refine wpQuiet_nil ?_
    intro _ hw'
    obtain ⟨nq, hw''⟩ := hw'
    subst hw''
    go_wp2_with fail
    go_roundw
    case rel =>
     refine ⟨k + 1, by omega, by go_num, fun j h hj => ?_, below_drewN HBr.out _, HKr.out⟩
     by_cases e : j = k
     ·subst e
      rw [HZ.out]
      exact HXZ.out
     ·exact HA.out j h (by omega)
    case measure => simp [intOf]; omega
  ·have HNO := Lib.hid (show decide (x ∈ ys) = false from decide_eq_false (by
    intro h
    obtain ⟨j, hj, e⟩ := List.getElem_of_mem h
    exact HA.out j hj (by omega) e.symm))
   obtain rfl : k = ys.length := by omega
   go_wp2_with fail
   go_ret
   exact ⟨⟨-1, rfl, by rw [← HRR.out, HNO.out]; rfl⟩, HBr.out⟩
set_option maxHeartbeats 4000000 in
theorem bdContains_any (A : Option Addr) (c : Nat) (ys : List Dd.Bd) (x : Dd.Bd) (w : World) (hR : Rd w w.heap.size 4 A ys.length (bcells ys)) (hl : ys.length ≤ 1000000) :
  Calls Tryz.prog 42 #[.slice A ys.length c, .agg #[.int .i64 x.f, .int .i64 x.t, .int .i64 x.m, .int .i64 x.r]] w fun e w' => e = .returned (.bool (decide (x ∈ ys))) ∧ Below w.heap.size w w' := by
 have HR := Lib.hid hR
 clear hR
 obtain ⟨r, hr⟩ : ∃ r, decide (x ∈ ys) = r := ⟨_, rfl⟩
 rw [hr]
 have HRR := Lib.hid hr
 clear hr
 go_enter Tryz.func42, Tryz.ntmps42
 go_upto_region 1 with fail
 refine wp_cutW (fun V => Below w.heap.size w V ∧ Bk V w.heap.size 77 #[.int .i64 x.f, .int .i64 x.t, .int .i64 x.m, .int .i64 x.r]) ⟨(Below.refl w.heap.size w).alloc (Nat.le_refl _) _, Bk.new w 77 _⟩ ?_
 rintro W ⟨hb0, hk0⟩
 have HB := Lib.hid hb0
 have HK := Lib.hid hk0
 clear hb0 hk0
 have HI := Lib.hid (bdIndex_any A c ys x W ((HR.out.below HB.out (Nat.le_refl _)).more HB.out.size) hl)
 rw [HRR.out] at HI
 have c0 := (HK.out.cell 0).trans rfl
 have c1 := (HK.out.cell 1).trans rfl
 have c2 := (HK.out.cell 2).trans rfl
 have c3 := (HK.out.cell 3).trans rfl
 have cl := HK.out.lt
 go_wp2_with fail
 refine HI.out.mono ?_
 rintro e w2 ⟨⟨n, rfl, hn⟩, hb⟩
 have hn : decide (n ≥ 0) = r := hn
 have HB2 := Lib.hid (HB.out.trans (hb.mono HB.out.size))
 clear hb
 go_wp2_with fail
 go_ret
 exact ⟨rfl, HB2.out⟩
theorem same1_any (g : Nat) (A : Option Addr) (c : Nat) (ys : List Dd.Bd) (x : Dd.Bd) (w : World) (hk : Bk w g 45 #[.slice A ys.length c]) (hR : Rd w w.heap.size 4 A ys.length (bcells ys)) (hl : ys.length ≤ 1000000) :
  Calls Tryz.prog 41 #[.agg #[.int .i64 x.f, .int .i64 x.t, .int .i64 x.m, .int .i64 x.r], .pointer (some ⟨g, 0, none⟩)] w fun e w' => e = .returned (.bool (!(decide (x ∈ ys)))) ∧ Below w.heap.size w w' := by
 have HR := Lib.hid hR
 have HG := Lib.hid hk
 clear hR hk
 obtain ⟨r, hr⟩ : ∃ r, decide (x ∈ ys) = r := ⟨_, rfl⟩
 rw [hr]
 have HRR := Lib.hid hr
 clear hr
 go_enter Tryz.func41, Tryz.ntmps41
 go_upto_region 1 with fail
 refine wp_cutW (fun V => Below w.heap.size w V ∧ Bk V w.heap.size 77 #[.int .i64 x.f, .int .i64 x.t, .int .i64 x.m, .int .i64 x.r] ∧ Bk V g 45 #[.slice A ys.length c]) ⟨(Below.refl w.heap.size w).alloc (Nat.le_refl _) _, Bk.new w 77 _, HG.out.alloc _⟩ ?_
 rintro W ⟨hb0, hk0, hg0⟩
 have HB := Lib.hid hb0
 have HK := Lib.hid hk0
 clear hb0 hk0
 have HI := Lib.hid (bdContains_any A c ys x W ((HR.out.below HB.out (Nat.le_refl _)).more HB.out.size) hl)
 rw [HRR.out] at HI
 have g0 := (hg0.cell 0).trans rfl
 have gl := hg0.lt
 clear hg0
 have c0 := (HK.out.cell 0).trans rfl
 have c1 := (HK.out.cell 1).trans rfl
 have c2 := (HK.out.cell 2).trans rfl
 have c3 := (HK.out.cell 3).trans rfl
 have cl := HK.out.lt
 go_wp2_with fail
 refine HI.out.mono ?_
 rintro e w2 ⟨rfl, hb⟩
 have HB2 := Lib.hid (HB.out.trans (hb.mono HB.out.size))
 clear hb
 go_wp2_with fail
 go_ret
 exact ⟨rfl, HB2.out⟩
set_option maxHeartbeats 4000000 in
theorem sameBounds_same (A1 A2 : Option Addr) (c1 c2 : Nat) (ys : List Dd.Bd) (w : World) (h1 : Rd w w.heap.size 4 A1 ys.length (bcells ys)) (h2 : Rd w w.heap.size 4 A2 ys.length (bcells ys)) (hl : ys.length ≤ 1000000) :
  Calls Tryz.prog 24 #[.slice A1 ys.length c1, .slice A2 ys.length c2] w fun e w' => e = .returned (.bool true) ∧ Below w.heap.size w w' := by
 have H1 := Lib.hid h1
 have H2 := Lib.hid h2
 have q1 : ((ys.length : Int) != (ys.length : Int)) = false := by simp
 clear h1 h2
 go_enter Tryz.func24, Tryz.ntmps24
 go_wp2_with fail
 go_loopw [5] (fun I wr => ∃ k : Nat, k ≤ ys.length ∧ I = .int .i64 k ∧ Below w.heap.size w wr) (fun I _ => ys.length - (intOf I).toNat)
 case atStart => exact ⟨0, Nat.zero_le _, rfl, Below.refl _ _⟩
 case round =>
  obtain ⟨k, hk, rfl, hB⟩ := hrel
  have HB := Lib.hid hB
  clear hB
  by_cases hlt : k < ys.length
  ·obtain ⟨b, off, rfl, hb, e0, e1, e2, e3⟩ := (H1.out.below HB.out (Nat.le_refl _)).bound hlt
   obtain ⟨b', off', rfl, hb', e0', e1', e2', e3'⟩ := (H2.out.below HB.out (Nat.le_refl _)).bound hlt
   have hb2 : b < wr.heap.size := Nat.lt_of_lt_of_le hb HB.out.size
   have hb3 : b' < wr.heap.size := Nat.lt_of_lt_of_le hb' HB.out.size
   obtain ⟨z, hz⟩ : ∃ z, ys[k] = z := ⟨_, rfl⟩
   rw [hz] at e0 e1 e2 e3 e0' e1' e2' e3'
   clear hz
   go_wp2_with fail
   go_quiet (fail)
   go_wp2_with fail
   go_roundw
   case rel => exact ⟨k + 1, by omega, by go_num, below_drewN HB.out _⟩
   case measure => simp [intOf]; omega
  ·obtain rfl : k = ys.length := by omega
   go_wp2_with fail
   go_ret
   exact ⟨rfl, HB.out⟩
end Go.Proofs.YtcbeefbefapicaaGreatDoor
