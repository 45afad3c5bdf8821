/-
  What the claims of layer deed need of the texts DIdx.
-/
import Derived.Test.YtccikcpcfdjobaaGreatDoorBr07
import Derived.Test.YtccikcpcfdjobaaGreatDoorBr01
import Derived.Test.YtccikcpcfdjobaaGreatDoorBz
set_option linter.unusedVariables false
set_option linter.unusedSimpArgs false
set_option maxHeartbeats 8000000
set_option maxRecDepth 100000
namespace Go.Proofs.YtccikcpcfdjobaaGreatDoor
section
open Go.RowKit
theorem Rd.bound {w : World} {B : Nat} {A : Option Addr} {l : List Dd.Bd} (h : Rd w B 4 A l.length (bcells l)) {k : Nat} (hk : k < l.length) :
  ∃ b off, A = some ⟨b, off, none⟩ ∧ b < B ∧ w.cell? ⟨b, off + k * 4, none⟩ = some (.int .i64 l[k].f) ∧ w.cell? ⟨b, off + k * 4 + 1, none⟩ = some (.int .i64 l[k].t) ∧
   w.cell? ⟨b, off + k * 4 + 2, none⟩ = some (.int .i64 l[k].m) ∧ w.cell? ⟨b, off + k * 4 + 3, none⟩ = some (.int .i64 l[k].r) := by
 obtain ⟨b, off, e, hb, hc⟩ := Rd.item (cell := bcell) h bcell_len hk
 exact ⟨b, off, e, hb, hc 0 (by decide), hc 1 (by decide), hc 2 (by decide), hc 3 (by decide)⟩
theorem any_idx {α : Type} (p : α → Bool) (l : List α) : l.any p = decide (0 ≤ Dd.idxP p l 0) := by
 rcases Dd.idxP_spec p l 0 with ⟨i, hi, h1, h2, h3⟩ | ⟨h1, h2⟩
 ·rw [h3, decide_eq_true (by omega), List.any_eq_true]
  exact ⟨l[i], List.getElem_mem hi, h1⟩
 ·rw [h2, decide_eq_false (by decide), List.any_eq_false]
  intro x hx
  obtain ⟨i, hi, rfl⟩ := List.getElem_of_mem hx
  rw [h1 i hi]
  simp
theorem idxSt_any (g : Nat) (cap : Array Value) (p : Cs.Bs × Int → Bool) (A : Option Addr) (c : Nat) (ys : List (Cs.Bs × Int)) (w : World) (hR : Rd w w.heap.size 2 A ys.length (scells ys)) (hl : ys.length ≤ 1000000)
  (eg : ∀ args w, (callFunc g args).run Tryz.prog w = .ok (.enter g args) w)
  (hcl : ∀ x ∈ ys, ∀ W, Below w.heap.size w W → Calls Tryz.prog g (#[.agg #[.string ⟨x.1.toArray⟩, .int .i64 x.2]] ++ cap) W fun e w' => e = .returned (.bool (p x)) ∧ Below W.heap.size W w') :
  Calls Tryz.prog 184 #[.slice A ys.length c, .func (.func g) #[] cap] w fun e w' => e = .returned (.int .i64 (Dd.idxP p ys 0)) ∧ Below w.heap.size w w' := by
 have HCL := jQ hcl
 have HR := jQ hR
 clear hcl hR
 go_enter Tryz.func184, Tryz.ntmps184
 go_wp2_with fail
 go_loopw [8] (fun I wr => ∃ k : Nat, k ≤ ys.length ∧ I = .int .i64 k ∧ (∀ j (h : j < ys.length), j < k → p ys[j] = false) ∧ Below w.heap.size w wr) (fun I _ => ys.length - (intOf I).toNat)
 case atStart => exact ⟨0, Nat.zero_le _, rfl, fun j h hj => absurd hj (by omega), Below.refl _ _⟩
 case round =>
  obtain ⟨k, hk, rfl, ha, hB⟩ := hrel
  have HA := jQ ha
  have HB := jQ hB
  clear ha
  by_cases hlt : k < ys.length
  ·obtain ⟨b, off, rfl, hb, e0, e1⟩ := (HR.o.below hB (Nat.le_refl _)).station hlt
   have hc := HCL.o _ (List.getElem_mem hlt) wr hB
   have hb2 : b < wr.heap.size := Nat.lt_of_lt_of_le hb hB.size
   obtain ⟨x, hx⟩ : ∃ x, ys[k] = x := ⟨_, rfl⟩
   rw [hx] at e0 e1 hc
   have HX := jQ hx
   have HC := jQ hc
   rcases hp : p x with _ | _
   ·rw [hp] at hc
    have HP := jQ hp
    have HC := jQ hc
    clear hc hp hx hB
    go_wp2_with fail
    refine HC.o.mono ?_
    rintro e w2 ⟨rfl, hb3⟩
    have HB2 := jQ (HB.o.trans (hb3.mono HB.o.size))
    clear hb3
    go_wp2_with fail
    go_roundw
    case rel =>
     refine ⟨k + 1, by omega, by go_num, fun j h hj => ?_, HB2.o⟩
     by_cases e : j = k
     ·subst e
      rw [HX.o]
      exact HP.o
     ·exact HA.o j h (by omega)
    case measure => simp [intOf]; omega
   ·rw [hp] at hc
    have hres : Dd.idxP p ys 0 = k := Dd.idxP_at hlt (by rw [hx]; exact hp) (fun j hj => HA.o j (by omega) hj)
    have HRES := jQ hres
    have HC := jQ hc
    clear hc hp hx hB hres
    go_wp2_with fail
    refine HC.o.mono ?_
    rintro e w2 ⟨rfl, hb3⟩
    have HB2 := jQ (HB.o.trans (hb3.mono HB.o.size))
    clear hb3
    go_wp2_with fail
    go_ret
    exact ⟨ret_int HRES.o.symm, HB2.o⟩
  ·have hres : Dd.idxP p ys 0 = -1 := Dd.idxP_no (fun j h => HA.o j h (by omega))
   have HRES := jQ hres
   obtain rfl : k = ys.length := by omega
   clear hres hB
   go_wp2_with fail
   go_ret
   exact ⟨ret_int HRES.o.symm, HB.o⟩
theorem conSt_any (g : Nat) (cap : Array Value) (p : Cs.Bs × Int → Bool) (A : Option Addr) (c : Nat) (ys : List (Cs.Bs × Int)) (w : World) (hR : Rd w w.heap.size 2 A ys.length (scells ys)) (hl : ys.length ≤ 1000000)
  (eg : ∀ args w, (callFunc g args).run Tryz.prog w = .ok (.enter g args) w)
  (hcl : ∀ x ∈ ys, ∀ W, Below w.heap.size w W → Calls Tryz.prog g (#[.agg #[.string ⟨x.1.toArray⟩, .int .i64 x.2]] ++ cap) W fun e w' => e = .returned (.bool (p x)) ∧ Below W.heap.size W w') :
  Calls Tryz.prog 128 #[.slice A ys.length c, .func (.func g) #[] cap] w fun e w' => e = .returned (.bool (ys.any p)) ∧ Below w.heap.size w w' := by
 have h1 := idxSt_any g cap p A c ys w hR hl eg hcl
 rw [any_idx]
 obtain ⟨i, hi⟩ : ∃ i, Dd.idxP p ys 0 = i := ⟨_, rfl⟩
 rw [hi] at h1 ⊢
 have H1 := jQ h1
 clear h1 hcl hR hi eg
 go_enter Tryz.func128, Tryz.ntmps128
 go_wp2_with fail
 refine H1.o.mono ?_
 rintro e w2 ⟨rfl, hb⟩
 have HB := jQ hb
 clear hb
 go_wp2_with fail
 go_ret
 exact ⟨rfl, HB.o⟩
theorem idxTx_any (g : Nat) (cap : Array Value) (p : Cs.Bs → Bool) (A : Option Addr) (c : Nat) (ys : List (Cs.Bs)) (w : World) (hR : Rd w w.heap.size 1 A ys.length (wcells ys)) (hl : ys.length ≤ 1000000)
  (eg : ∀ args w, (callFunc g args).run Tryz.prog w = .ok (.enter g args) w)
  (hcl : ∀ x ∈ ys, ∀ W, Below w.heap.size w W → Calls Tryz.prog g (#[.string ⟨x.toArray⟩] ++ cap) W fun e w' => e = .returned (.bool (p x)) ∧ Below W.heap.size W w') :
  Calls Tryz.prog 186 #[.slice A ys.length c, .func (.func g) #[] cap] w fun e w' => e = .returned (.int .i64 (Dd.idxP p ys 0)) ∧ Below w.heap.size w w' := by
 have HCL := jQ hcl
 have HR := jQ hR
 clear hcl hR
 go_enter Tryz.func186, Tryz.ntmps186
 go_wp2_with fail
 go_loopw [8] (fun I wr => ∃ k : Nat, k ≤ ys.length ∧ I = .int .i64 k ∧ (∀ j (h : j < ys.length), j < k → p ys[j] = false) ∧ Below w.heap.size w wr) (fun I _ => ys.length - (intOf I).toNat)
 case atStart => exact ⟨0, Nat.zero_le _, rfl, fun j h hj => absurd hj (by omega), Below.refl _ _⟩
 case round =>
  obtain ⟨k, hk, rfl, ha, hB⟩ := hrel
  have HA := jQ ha
  have HB := jQ hB
  clear ha
  by_cases hlt : k < ys.length
  ·obtain ⟨b, off, rfl, hb, e0⟩ := (HR.o.below hB (Nat.le_refl _)).text hlt
   have hc := HCL.o _ (List.getElem_mem hlt) wr hB
   have hb2 : b < wr.heap.size := Nat.lt_of_lt_of_le hb hB.size
   obtain ⟨x, hx⟩ : ∃ x, ys[k] = x := ⟨_, rfl⟩
   rw [hx] at e0 hc
   have HX := jQ hx
   have HC := jQ hc
   rcases hp : p x with _ | _
   ·rw [hp] at hc
    have HP := jQ hp
    have HC := jQ hc
    clear hc hp hx hB
    go_wp2_with fail
    refine HC.o.mono ?_
    rintro e w2 ⟨rfl, hb3⟩
    have HB2 := jQ (HB.o.trans (hb3.mono HB.o.size))
    clear hb3
    go_wp2_with fail
    go_roundw
    case rel =>
     refine ⟨k + 1, by omega, by go_num, fun j h hj => ?_, HB2.o⟩
     by_cases e : j = k
     ·subst e
      rw [HX.o]
      exact HP.o
     ·exact HA.o j h (by omega)
    case measure => simp [intOf]; omega
   ·rw [hp] at hc
    have hres : Dd.idxP p ys 0 = k := Dd.idxP_at hlt (by rw [hx]; exact hp) (fun j hj => HA.o j (by omega) hj)
    have HRES := jQ hres
    have HC := jQ hc
    clear hc hp hx hB hres
    go_wp2_with fail
    refine HC.o.mono ?_
    rintro e w2 ⟨rfl, hb3⟩
    have HB2 := jQ (HB.o.trans (hb3.mono HB.o.size))
    clear hb3
    go_wp2_with fail
    go_ret
    exact ⟨ret_int HRES.o.symm, HB2.o⟩
  ·have hres : Dd.idxP p ys 0 = -1 := Dd.idxP_no (fun j h => HA.o j h (by omega))
   have HRES := jQ hres
   obtain rfl : k = ys.length := by omega
   clear hres hB
   go_wp2_with fail
   go_ret
   exact ⟨ret_int HRES.o.symm, HB.o⟩
theorem conTx_any (g : Nat) (cap : Array Value) (p : Cs.Bs → Bool) (A : Option Addr) (c : Nat) (ys : List (Cs.Bs)) (w : World) (hR : Rd w w.heap.size 1 A ys.length (wcells ys)) (hl : ys.length ≤ 1000000)
  (eg : ∀ args w, (callFunc g args).run Tryz.prog w = .ok (.enter g args) w)
  (hcl : ∀ x ∈ ys, ∀ W, Below w.heap.size w W → Calls Tryz.prog g (#[.string ⟨x.toArray⟩] ++ cap) W fun e w' => e = .returned (.bool (p x)) ∧ Below W.heap.size W w') :
  Calls Tryz.prog 131 #[.slice A ys.length c, .func (.func g) #[] cap] w fun e w' => e = .returned (.bool (ys.any p)) ∧ Below w.heap.size w w' := by
 have h1 := idxTx_any g cap p A c ys w hR hl eg hcl
 rw [any_idx]
 obtain ⟨i, hi⟩ : ∃ i, Dd.idxP p ys 0 = i := ⟨_, rfl⟩
 rw [hi] at h1 ⊢
 have H1 := jQ h1
 clear h1 hcl hR hi eg
 go_enter Tryz.func131, Tryz.ntmps131
 go_wp2_with fail
 refine H1.o.mono ?_
 rintro e w2 ⟨rfl, hb⟩
 have HB := jQ hb
 clear hb
 go_wp2_with fail
 go_ret
 exact ⟨rfl, HB.o⟩
theorem idxPa_any (g : Nat) (cap : Array Value) (p : Dd.Pa → Bool) (A : Option Addr) (c : Nat) (ys : List (Dd.Pa)) (w : World) (hR : Rd w w.heap.size 4 A ys.length (pcells ys)) (hl : ys.length ≤ 1000000)
  (eg : ∀ args w, (callFunc g args).run Tryz.prog w = .ok (.enter g args) w)
  (hcl : ∀ x ∈ ys, ∀ W, Below w.heap.size w W → Calls Tryz.prog g (#[.agg #[.string ⟨x.name.toArray⟩, .int .i64 x.south, .int .i64 x.west, .int .i64 x.east]] ++ cap) W fun e w' => e = .returned (.bool (p x)) ∧ Below W.heap.size W w') :
  Calls Tryz.prog 55 #[.slice A ys.length c, .func (.func g) #[] cap] w fun e w' => e = .returned (.int .i64 (Dd.idxP p ys 0)) ∧ Below w.heap.size w w' := by
 have HCL := jQ hcl
 have HR := jQ hR
 clear hcl hR
 go_enter Tryz.func55, Tryz.ntmps55
 go_wp2_with fail
 go_loopw [8] (fun I wr => ∃ k : Nat, k ≤ ys.length ∧ I = .int .i64 k ∧ (∀ j (h : j < ys.length), j < k → p ys[j] = false) ∧ Below w.heap.size w wr) (fun I _ => ys.length - (intOf I).toNat)
 case atStart => exact ⟨0, Nat.zero_le _, rfl, fun j h hj => absurd hj (by omega), Below.refl _ _⟩
 case round =>
  obtain ⟨k, hk, rfl, ha, hB⟩ := hrel
  have HA := jQ ha
  have HB := jQ hB
  clear ha
  by_cases hlt : k < ys.length
  ·obtain ⟨b, off, rfl, hb, e0, e1, e2, e3⟩ := (HR.o.below hB (Nat.le_refl _)).parcel hlt
   have hc := HCL.o _ (List.getElem_mem hlt) wr hB
   have hb2 : b < wr.heap.size := Nat.lt_of_lt_of_le hb hB.size
   obtain ⟨x, hx⟩ : ∃ x, ys[k] = x := ⟨_, rfl⟩
   rw [hx] at e0 e1 e2 e3 hc
   have HX := jQ hx
   have HC := jQ hc
   rcases hp : p x with _ | _
   ·rw [hp] at hc
    have HP := jQ hp
    have HC := jQ hc
    clear hc hp hx hB
    go_wp2_with fail
    refine HC.o.mono ?_
    rintro e w2 ⟨rfl, hb3⟩
    have HB2 := jQ (HB.o.trans (hb3.mono HB.o.size))
    clear hb3
    go_wp2_with fail
    go_roundw
    case rel =>
     refine ⟨k + 1, by omega, by go_num, fun j h hj => ?_, HB2.o⟩
     by_cases e : j = k
     ·subst e
      rw [HX.o]
      exact HP.o
     ·exact HA.o j h (by omega)
    case measure => simp [intOf]; omega
   ·rw [hp] at hc
    have hres : Dd.idxP p ys 0 = k := Dd.idxP_at hlt (by rw [hx]; exact hp) (fun j hj => HA.o j (by omega) hj)
    have HRES := jQ hres
    have HC := jQ hc
    clear hc hp hx hB hres
    go_wp2_with fail
    refine HC.o.mono ?_
    rintro e w2 ⟨rfl, hb3⟩
    have HB2 := jQ (HB.o.trans (hb3.mono HB.o.size))
    clear hb3
    go_wp2_with fail
    go_ret
    exact ⟨ret_int HRES.o.symm, HB2.o⟩
  ·have hres : Dd.idxP p ys 0 = -1 := Dd.idxP_no (fun j h => HA.o j h (by omega))
   have HRES := jQ hres
   obtain rfl : k = ys.length := by omega
   clear hres hB
   go_wp2_with fail
   go_ret
   exact ⟨ret_int HRES.o.symm, HB.o⟩
theorem conPa_any (g : Nat) (cap : Array Value) (p : Dd.Pa → Bool) (A : Option Addr) (c : Nat) (ys : List (Dd.Pa)) (w : World) (hR : Rd w w.heap.size 4 A ys.length (pcells ys)) (hl : ys.length ≤ 1000000)
  (eg : ∀ args w, (callFunc g args).run Tryz.prog w = .ok (.enter g args) w)
  (hcl : ∀ x ∈ ys, ∀ W, Below w.heap.size w W → Calls Tryz.prog g (#[.agg #[.string ⟨x.name.toArray⟩, .int .i64 x.south, .int .i64 x.west, .int .i64 x.east]] ++ cap) W fun e w' => e = .returned (.bool (p x)) ∧ Below W.heap.size W w') :
  Calls Tryz.prog 133 #[.slice A ys.length c, .func (.func g) #[] cap] w fun e w' => e = .returned (.bool (ys.any p)) ∧ Below w.heap.size w w' := by
 have h1 := idxPa_any g cap p A c ys w hR hl eg hcl
 rw [any_idx]
 obtain ⟨i, hi⟩ : ∃ i, Dd.idxP p ys 0 = i := ⟨_, rfl⟩
 rw [hi] at h1 ⊢
 have H1 := jQ h1
 clear h1 hcl hR hi eg
 go_enter Tryz.func133, Tryz.ntmps133
 go_wp2_with fail
 refine H1.o.mono ?_
 rintro e w2 ⟨rfl, hb⟩
 have HB := jQ hb
 clear hb
 go_wp2_with fail
 go_ret
 exact ⟨rfl, HB.o⟩
end
end Go.Proofs.YtccikcpcfdjobaaGreatDoor
