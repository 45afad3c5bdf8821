/-
  What the claims of layer deed need of the texts DVst.
-/
import Derived.Test.YtcbeefbefapicaaGreatDoorBn04
set_option linter.unusedVariables false
set_option linter.unusedSimpArgs false
namespace Go.Proofs.YtcbeefbefapicaaGreatDoor
open Go.RowKit
set_option maxRecDepth 100000
structure FRw (w : World) (B : Nat) (v : Fv) (f : Dd.Fd) : Prop where
 st : Rd w B 2 v.a1 f.st.length (scells f.st)
 li : Rd w B 1 v.a2 f.li.length (wcells f.li)
 pa : Rd w B 4 v.a3 f.pa.length (pcells f.pa)
 va : Rd w B 2 v.a4 f.va.length (vcells f.va)
 k1 : f.st.length ≤ v.c1
 k2 : f.li.length ≤ v.c2
 k3 : f.pa.length ≤ v.c3
 l1 : f.st.length ≤ 9223372036854775807
 l2 : f.li.length ≤ 9223372036854775807
 l3 : f.pa.length ≤ 9223372036854775807
 l4 : f.va.length ≤ 9223372036854775807
 n1 : ∀ s ∈ f.st, s.1.length ≤ 9223372036854775807
 n2 : ∀ s ∈ f.li, s.length ≤ 9223372036854775807
 n3 : ∀ p ∈ f.pa, p.name.length ≤ 9223372036854775807
theorem FRw.below {w w' : World} {B C : Nat} {v : Fv} {f : Dd.Fd} (h : FRw w B v f) (hb : Below C w w') (hC : B ≤ C) : FRw w' B v f :=
 ⟨h.st.below hb hC, h.li.below hb hC, h.pa.below hb hC, h.va.below hb hC, h.k1, h.k2, h.k3, h.l1, h.l2, h.l3, h.l4, h.n1, h.n2, h.n3⟩
def Dd.longN (s : Cs.Bs) : Bool := decide (100 < s.length)
def Dd.bigF (f : Dd.Fd) : Bool := decide (20 < f.st.length) || (decide (20 < f.li.length) || (decide (60 < f.pa.length) || decide (60 < f.va.length)))
def Dd.vastF (f : Dd.Fd) : Bool := Dd.bigF f || ((f.st.any fun s => Dd.longN s.1) || ((f.li.any Dd.longN) || (f.pa.any fun p => Dd.longN p.name)))
theorem Dd.longN_no {s : Cs.Bs} (h : Dd.longN s = false) : s.length ≤ 100 := by simpa [Dd.longN] using h
theorem FRw.small {w : World} {B : Nat} {v : Fv} {f : Dd.Fd} (h : FRw w B v f) (hv : Dd.vastF f = false) : FRd w B v f := by
 unfold Dd.vastF Dd.bigF at hv
 simp only [Bool.or_eq_false_iff, decide_eq_false_iff_not, List.any_eq_false] at hv
 obtain ⟨⟨a1, a2, a3, a4⟩, b1, b2, b3⟩ := hv
 exact ⟨h.st, h.li, h.pa, h.va, h.k1, h.k2, h.k3, by omega, by omega, by omega, by omega,
  fun s hs => Nat.le_trans (Dd.longN_no (by simpa using b1 s hs)) (by decide), fun s hs => Nat.le_trans (Dd.longN_no (by simpa using b2 s hs)) (by decide), fun s hs => Nat.le_trans (Dd.longN_no (by simpa using b3 s hs)) (by decide)⟩
set_option maxHeartbeats 8000000 in
theorem vast_any (v : Fv) (f : Dd.Fd) (w : World) (hF : FRw w w.heap.size v f) :
  Calls Tryz.prog 8 #[fval v f] w fun e w' => e = .returned (.bool (Dd.vastF f)) ∧ Below w.heap.size w w' := by
 have hrf : Dd.vastF f = (Dd.bigF f || ((f.st.any fun s => Dd.longN s.1) || ((f.li.any Dd.longN) || (f.pa.any fun p => Dd.longN p.name)))) := rfl
 have hbf : Dd.bigF f = (decide (20 < f.st.length) || (decide (20 < f.li.length) || (decide (60 < f.pa.length) || decide (60 < f.va.length)))) := rfl
 have hl1 := hF.l1
 have hl2 := hF.l2
 have hl3 := hF.l3
 have hl4 := hF.l4
 have HF := Lib.hid hF
 have hfv : fval v f = .agg #[.slice v.a1 f.st.length v.c1, .slice v.a2 f.li.length v.c2, .slice v.a3 f.pa.length v.c3, .slice v.a4 f.va.length v.c4] := rfl
 rw [hfv]
 clear hF hfv
 obtain ⟨R, hR⟩ : ∃ R, Dd.vastF f = R := ⟨_, rfl⟩
 rw [hR] at hrf ⊢
 clear hR
 by_cases a1 : 20 < f.st.length
 ·have hr : R = true := by rw [hrf, hbf, decide_eq_true a1]; rfl
  have HR := Lib.hid hr
  have d1 : decide ((f.st.length : Int) > 20) = true := decide_eq_true (by omega)
  clear hr hrf hbf
  go_enter Tryz.func8, Tryz.ntmps8
  go_wp2_with fail
  go_ret
  exact ⟨ret_bool HR.out.symm, (Below.refl _ _).alloc (Nat.le_refl _) _⟩
 by_cases a2 : 20 < f.li.length
 ·have hr : R = true := by rw [hrf, hbf, decide_eq_true a2]; simp
  have HR := Lib.hid hr
  have d1 : decide ((f.st.length : Int) > 20) = false := decide_eq_false (by omega)
  have d2 : decide ((f.li.length : Int) > 20) = true := decide_eq_true (by omega)
  clear hr hrf hbf
  go_enter Tryz.func8, Tryz.ntmps8
  go_wp2_with fail
  go_ret
  exact ⟨ret_bool HR.out.symm, (Below.refl _ _).alloc (Nat.le_refl _) _⟩
 by_cases a3 : 60 < f.pa.length
 ·have hr : R = true := by rw [hrf, hbf, decide_eq_true a3]; simp
  have HR := Lib.hid hr
  have d1 : decide ((f.st.length : Int) > 20) = false := decide_eq_false (by omega)
  have d2 : decide ((f.li.length : Int) > 20) = false := decide_eq_false (by omega)
  have d3 : decide ((f.pa.length : Int) > 60) = true := decide_eq_true (by omega)
  clear hr hrf hbf
  go_enter Tryz.func8, Tryz.ntmps8
  go_wp2_with fail
  go_ret
  exact ⟨ret_bool HR.out.symm, (Below.refl _ _).alloc (Nat.le_refl _) _⟩
 by_cases a4 : 60 < f.va.length
 ·have hr : R = true := by rw [hrf, hbf, decide_eq_true a4]; simp
  have HR := Lib.hid hr
  have d1 : decide ((f.st.length : Int) > 20) = false := decide_eq_false (by omega)
  have d2 : decide ((f.li.length : Int) > 20) = false := decide_eq_false (by omega)
  have d3 : decide ((f.pa.length : Int) > 60) = false := decide_eq_false (by omega)
  have d4 : decide ((f.va.length : Int) > 60) = true := decide_eq_true (by omega)
  clear hr hrf hbf
  go_enter Tryz.func8, Tryz.ntmps8
  go_wp2_with fail
  go_ret
  exact ⟨ret_bool HR.out.symm, (Below.refl _ _).alloc (Nat.le_refl _) _⟩
 rw [hbf, decide_eq_false a1, decide_eq_false a2, decide_eq_false a3, decide_eq_false a4, Bool.false_or, Bool.false_or, Bool.false_or, Bool.false_or] at hrf
 have HR := Lib.hid hrf
 have d1 : decide ((f.st.length : Int) > 20) = false := decide_eq_false (by omega)
 have d2 : decide ((f.li.length : Int) > 20) = false := decide_eq_false (by omega)
 have d3 : decide ((f.pa.length : Int) > 60) = false := decide_eq_false (by omega)
 have d4 : decide ((f.va.length : Int) > 60) = false := decide_eq_false (by omega)
 clear hrf hbf
 go_enter Tryz.func8, Tryz.ntmps8
 go_wp2_with fail
 have HB := Lib.hid ((Below.refl w.heap.size w).alloc (Nat.le_refl _) (.cells #[.slice v.a1 f.st.length v.c1, .slice v.a2 f.li.length v.c2, .slice v.a3 f.pa.length v.c3, .slice v.a4 f.va.length v.c4] 27))
 have k0 := Bk.new w 27 #[.slice v.a1 f.st.length v.c1, .slice v.a2 f.li.length v.c2, .slice v.a3 f.pa.length v.c3, .slice v.a4 f.va.length v.c4]
 have f0 := (k0.cell 0).trans rfl
 have f1 := (k0.cell 1).trans rfl
 have f2 := (k0.cell 2).trans rfl
 have kl := k0.lt
 obtain ⟨W, hW⟩ : ∃ W, w.alloc (.cells #[.slice v.a1 f.st.length v.c1, .slice v.a2 f.li.length v.c2, .slice v.a3 f.pa.length v.c3, .slice v.a4 f.va.length v.c4] 27) = W := ⟨_, rfl⟩
 rw [hW] at HB f0 f1 f2 kl ⊢
 clear hW k0
 go_loop [3] (fun I => ∃ k : Nat, k ≤ f.st.length ∧ I = .int .i64 k ∧ ∀ j (h : j < f.st.length), j < k → Dd.longN f.st[j].1 = false) (fun I => f.st.length - (intOf I).toNat)
 case atStart => exact ⟨0, Nat.zero_le _, rfl, fun j h hj => absurd hj (by omega)⟩
 case round =>
  obtain ⟨k, hk, rfl, ha⟩ := hrel
  have HA := Lib.hid ha
  clear ha
  by_cases hlt : k < f.st.length
  ·obtain ⟨b, off, ha1, hb, e0, e1⟩ := (HF.out.st.below HB.out (Nat.le_refl _)).station hlt
   have hb2 : b < W.heap.size := Nat.lt_of_lt_of_le hb HB.out.size
   have hnl := HF.out.n1 _ (List.getElem_mem hlt)
   obtain ⟨x, hx⟩ : ∃ x, f.st[k] = x := ⟨_, rfl⟩
   rw [hx] at e0 e1 hnl
   have HX := Lib.hid hx
   by_cases hn : 100 < x.1.length
   ·have hno : R = true := by
     rw [HR.out]
     have : (f.st.any fun s => Dd.longN s.1) = true := List.any_eq_true.2 ⟨x, by rw [← HX.out]; exact List.getElem_mem hlt, decide_eq_true hn⟩
     rw [this]
     rfl
    have HNO := Lib.hid hno
    have d5 : decide ((x.1.length : Int) > 100) = true := decide_eq_true (by omega)
    clear hno hx
    rw [ha1]
    go_wp2_with fail
    go_ret
    exact ⟨ret_bool HNO.out.symm, HB.out⟩
   ·have d5 : decide ((x.1.length : Int) > 100) = false := decide_eq_false (by omega)
    have HD := Lib.hid (show Dd.longN x.1 = false from decide_eq_false hn)
    clear hx
    rw [ha1]
    go_wp2_with fail
    go_round
    case rel =>
     refine ⟨k + 1, by omega, by go_num, fun j h hj => ?_⟩
     by_cases e : j = k
     ·subst e
      rw [HX.out]
      exact HD.out
     ·exact HA.out j h (by omega)
    case measure => simp [intOf]; omega
  ·obtain rfl : k = f.st.length := by omega
   have hst : (f.st.any fun s => Dd.longN s.1) = false := by
    rw [List.any_eq_false]
    intro x hx
    obtain ⟨i, hi, rfl⟩ := List.getElem_of_mem hx
    simpa using HA.out i hi hi
   have hrf := HR.out
   rw [hst, Bool.false_or] at hrf
   have HR2 := Lib.hid hrf
   clear hrf hst HR HA
   go_wp2_with fail
   go_loop [4] (fun I => ∃ k : Nat, k ≤ f.li.length ∧ I = .int .i64 k ∧ ∀ j (h : j < f.li.length), j < k → Dd.longN f.li[j] = false) (fun I => f.li.length - (intOf I).toNat)
   case atStart => exact ⟨0, Nat.zero_le _, rfl, fun j h hj => absurd hj (by omega)⟩
   case round =>
    obtain ⟨k, hk, rfl, ha⟩ := hrel
    have HA := Lib.hid ha
    clear ha
    by_cases hlt : k < f.li.length
    ·obtain ⟨b, off, ha1, hb, e0⟩ := (HF.out.li.below HB.out (Nat.le_refl _)).text hlt
     have hb2 : b < W.heap.size := Nat.lt_of_lt_of_le hb HB.out.size
     have hnl := HF.out.n2 _ (List.getElem_mem hlt)
     obtain ⟨x, hx⟩ : ∃ x, f.li[k] = x := ⟨_, rfl⟩
     rw [hx] at e0 hnl
     have HX := Lib.hid hx
     by_cases hn : 100 < x.length
     ·have hno : R = true := by
       rw [HR2.out]
       have : (f.li.any Dd.longN) = true := List.any_eq_true.2 ⟨x, by rw [← HX.out]; exact List.getElem_mem hlt, decide_eq_true hn⟩
       rw [this]
       rfl
      have HNO := Lib.hid hno
      have d5 : decide ((x.length : Int) > 100) = true := decide_eq_true (by omega)
      clear hno hx
      rw [ha1]
      go_wp2_with fail
      go_ret
      exact ⟨ret_bool HNO.out.symm, HB.out⟩
     ·have d5 : decide ((x.length : Int) > 100) = false := decide_eq_false (by omega)
      have HD := Lib.hid (show Dd.longN x = false from decide_eq_false hn)
      clear hx
      rw [ha1]
      go_wp2_with fail
      go_round
      case rel =>
       refine ⟨k + 1, by omega, by go_num, fun j h hj => ?_⟩
       by_cases e : j = k
       ·subst e
        rw [HX.out]
        exact HD.out
       ·exact HA.out j h (by omega)
      case measure => simp [intOf]; omega
    ·obtain rfl : k = f.li.length := by omega
     have hst : (f.li.any Dd.longN) = false := by
      rw [List.any_eq_false]
      intro x hx
      obtain ⟨i, hi, rfl⟩ := List.getElem_of_mem hx
      simpa using HA.out i hi hi
     have hrf := HR2.out
     rw [hst, Bool.false_or] at hrf
     have HR3 := Lib.hid hrf
     clear hrf hst HR2 HA
     go_wp2_with fail
     go_loop [5] (fun I => ∃ k : Nat, k ≤ f.pa.length ∧ I = .int .i64 k ∧ ∀ j (h : j < f.pa.length), j < k → Dd.longN f.pa[j].name = false) (fun I => f.pa.length - (intOf I).toNat)
     case atStart => exact ⟨0, Nat.zero_le _, rfl, fun j h hj => absurd hj (by omega)⟩
     case round =>
      obtain ⟨k, hk, rfl, ha⟩ := hrel
      have HA := Lib.hid ha
      clear ha
      by_cases hlt : k < f.pa.length
      ·obtain ⟨b, off, ha1, hb, e0, e1, e2, e3⟩ := (HF.out.pa.below HB.out (Nat.le_refl _)).parcel hlt
       have hb2 : b < W.heap.size := Nat.lt_of_lt_of_le hb HB.out.size
       have hnl := HF.out.n3 _ (List.getElem_mem hlt)
       obtain ⟨x, hx⟩ : ∃ x, f.pa[k] = x := ⟨_, rfl⟩
       rw [hx] at e0 e1 e2 e3 hnl
       have HX := Lib.hid hx
       by_cases hn : 100 < x.name.length
       ·have hno : R = true := by
         rw [HR3.out]
         exact List.any_eq_true.2 ⟨x, by rw [← HX.out]; exact List.getElem_mem hlt, decide_eq_true hn⟩
        have HNO := Lib.hid hno
        have d5 : decide ((x.name.length : Int) > 100) = true := decide_eq_true (by omega)
        clear hno hx
        rw [ha1]
        go_wp2_with fail
        go_ret
        exact ⟨ret_bool HNO.out.symm, HB.out⟩
       ·have d5 : decide ((x.name.length : Int) > 100) = false := decide_eq_false (by omega)
        have HD := Lib.hid (show Dd.longN x.name = false from decide_eq_false hn)
        clear hx
        rw [ha1]
        go_wp2_with fail
        go_round
        case rel =>
         refine ⟨k + 1, by omega, by go_num, fun j h hj => ?_⟩
         by_cases e : j = k
         ·subst e
          rw [HX.out]
          exact HD.out
         ·exact HA.out j h (by omega)
        case measure => simp [intOf]; omega
      ·obtain rfl : k = f.pa.length := by omega
       have hst : R = false := by
        rw [HR3.out, List.any_eq_false]
        intro x hx
        obtain ⟨i, hi, rfl⟩ := List.getElem_of_mem hx
        simpa using HA.out i hi hi
       have HS := Lib.hid hst
       clear hst HR3 HA
       go_wp2_with fail
       go_ret
       exact ⟨ret_bool HS.out.symm, HB.out⟩
end Go.Proofs.YtcbeefbefapicaaGreatDoor
