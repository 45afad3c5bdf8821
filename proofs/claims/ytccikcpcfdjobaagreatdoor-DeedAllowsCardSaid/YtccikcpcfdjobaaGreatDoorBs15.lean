/-
  What the claim needs: contracts.
-/
import Derived.Test.YtccikcpcfdjobaaGreatDoorBs14
set_option linter.unusedVariables false
set_option linter.unusedSimpArgs false
set_option maxHeartbeats 8000000
set_option maxRecDepth 100000
namespace Go.Proofs.YtccikcpcfdjobaaGreatDoor
section
open Go.RowKit
theorem Dd.yCG {p q : Dd.Pa} (h : p.south = q.south) : Dd.hits p q = decide (1 < Dd.comQ p q) := by
 rw [Dd.y6k];unfold Dd.hits;rw [decide_eq_true h.symm, Bool.true_and]
theorem Dd.yCH {p q : Dd.Pa} (h : ¬ p.south = q.south) : Dd.hits p q = false := by
 unfold Dd.hits;rw [decide_eq_false (fun e => h e.symm), Bool.false_and]
theorem y6A (v : Fv) (f : Dd.Fd) (w : World) (hF : FRd w w.heap.size v f) (hsm : ∀ p ∈ f.pa, Dd.Small p) :
  Calls Tryz.prog 89 #[fval v f] w fun e w' => e = .returned (.bool (Dd.orderF f)) /\ Below w.heap.size w w' := by
 have hd : Dd.orderF f = (Dd.upF (f.st.map (·.2)) && Dd.clearA [] f.pa) := rfl;have hup := Dd.yBR (f.st.map (·.2));have hcl := Dd.y90 f.pa;obtain ⟨R, hR⟩ := zE (Dd.orderF f);rw [hR] at hd ⊢;have hl1 := hF.l1;have hl3 := hF.l3;have HD := jQ hd;have HUP := jQ hup;have HCL := jQ hcl;have HSM := jQ hsm;have S0 := jQ (Fs.new hF);rw [y01];clear hd hup hcl hR hF hsm;go_enter Tryz.func89, Tryz.ntmps89;go_wp2_with fail;go_loopw [3] (fun I wr => ∃ k : Nat, 1 <= k /\ (k <= f.st.length ∨ k = 1) /\ I = .int .i64 k /\ (∀ j (h : j + 1 < f.st.length), j + 1 < k -> f.st[j].2 < f.st[j + 1].2) /\ Fs w w.heap.size v f wr) (fun I _ => f.st.length - (intOf I).toNat)
 case atStart => exact ⟨1, Nat.le_refl _, Or.inr rfl, rfl, (fun j h hj => absurd hj (by omega)), S0.o⟩
 clear S0;obtain ⟨k, hk1, hk2, rfl, ha, hS⟩ := hrel;have HA := jQ ha;have S1 := jQ hS;clear ha hS;obtain ⟨f0, f1, f2, f3, fl⟩ := S1.o.cells;by_cases hlt : k < f.st.length
 ·obtain ⟨j, rfl⟩ : ∃ j, k = j + 1 := ⟨k - 1, by omega⟩;obtain ⟨b, off, hA1, hb, e0, e1⟩ := S1.o.rd.st.station hlt;obtain ⟨b2, off2, hA2, hb2, g0, g1⟩ := S1.o.rd.st.station (show j < f.st.length by omega);rw [hA1] at hA2;obtain ⟨rfl, rfl⟩ : b = b2 /\ off = off2 := by simpa using hA2
  rw [hA1] at f0;obtain ⟨x, hx⟩ := zE (f.st[j + 1].2);obtain ⟨y, hy⟩ := zE (f.st[j].2);rw [hx] at e1;rw [hy] at g1;have HX := jQ hx;have HY := jQ hy;have hi : IntKind.i64.wrap (((j + 1 : Nat) : Int) - 1) = (j : Int) := by rw [show ((j + 1 : Nat) : Int) - 1 = (j : Int) by omega]; exact IntWalk.i64_in _ (by omega)
  have hj1 : ((j + 1 : Nat) : Int) - 1 = (j : Int) := by omega
  clear hA1 hA2 hx hy hb2 g0 e0;by_cases hge : y < x
  ·have d1 : decide (y ≥ x) = false := decide_eq_false (by omega);have HLT := jQ hge;clear hge;go_wp2_with fail;go_quiet (fail);go_wp2_with fail;go_roundw
   case rel =>
    refine ⟨j + 1 + 1, by omega, Or.inl (by omega), by go_num, fun i h hi => ?_, S1.o.next (y05 (Below.refl _ _) _)⟩;by_cases e : i = j
    ·subst e;rw [HX.o, HY.o];exact HLT.o
    exact HA.o i h (by omega)
   case measure => simp [intOf]; omega
  have d1 : decide (y ≥ x) = true := decide_eq_true (by omega);have HRF := jQ (show R = false by
   rw [HD.o];have : Dd.upF (f.st.map (·.2)) = false := by
    rw [<- Bool.not_eq_true, HUP.o];intro h;have := h j (by simpa using hlt);simp only [List.getElem_map] at this;rw [HX.o, HY.o] at this;omega
   rw [this, Bool.false_and])
  clear hge;go_wp2_with fail;go_quiet (fail);go_wp2_with fail;go_ret;exact ⟨y00 HRF.o.symm, y05 S1.o.b _⟩
 have HUT := jQ (show Dd.upF (f.st.map (·.2)) = true by
  rw [HUP.o];intro i hi;simp only [List.length_map] at hi;simp only [List.getElem_map];exact HA.o i hi (by omega))
 have dlt : decide ((k : Int) < (f.st.length : Int)) = false := decide_eq_false (by omega);clear HA HUP;go_wp2_with fail;clear f0 f1 f2 f3 fl;go_loopw [4] (fun I wr => ∃ k : Nat, k <= f.pa.length /\ I = .int .i64 k /\ (∀ i (h : i < f.pa.length), i < k -> f.pa[i].west < f.pa[i].east /\ ∀ j (hj : j < f.pa.length), j < i -> Dd.hits f.pa[i] f.pa[j] = false) /\ Fs w w.heap.size v f wr) (fun I _ => f.pa.length - (intOf I).toNat)
 case atStart => exact ⟨0, Nat.zero_le _, rfl, (fun i h hi => absurd hi (by omega)), S1.o⟩
 clear S1 dlt hlt hk1 hk2;obtain ⟨i, hi, rfl, ha, hS⟩ := hrel;have HA := jQ ha;have S2 := jQ hS;clear ha hS;obtain ⟨f0, f1, f2, f3, fl⟩ := S2.o.cells;by_cases hlt : i < f.pa.length
 ·obtain ⟨b, off, hA1, hb, e0, e1, e2, e3⟩ := S2.o.rd.pa.parcel hlt;rw [hA1] at f2;obtain ⟨p, hp⟩ := zE (f.pa[i]);rw [hp] at e0 e1 e2 e3;have HP := jQ hp;have HPS := jQ (show Dd.Small p by rw [<- hp]; exact HSM.o _ (List.getElem_mem hlt));have HA1 := jQ hA1;clear hp hA1;by_cases hwe : p.west < p.east
  ·have d1 : decide (p.west ≥ p.east) = false := decide_eq_false (by omega);have HWE := jQ hwe;clear hwe;go_wp2_with fail;go_quiet (fail);go_wp2_with fail;clear f0 f1 f2 f3 fl e0 e1 e2 e3 d1;have S3 := jQ (S2.o.next (y05 (Below.refl _ _) nq));clear S2 hb;go_loopw [5] (fun I wr => ∃ k : Nat, k <= i /\ I = .int .i64 k /\ (∀ j (hj : j < f.pa.length), j < k -> Dd.hits p f.pa[j] = false) /\ Fs w w.heap.size v f wr) (fun I _ => i - (intOf I).toNat)
   case atStart => exact ⟨0, Nat.zero_le _, rfl, (fun j h hj => absurd hj (by omega)), S3.o⟩
   clear S3;obtain ⟨k, hk, rfl, hb, hS⟩ := hrel;have HB := jQ hb;have S4 := jQ hS;clear hb hS;obtain ⟨f0, f1, f2, f3, fl⟩ := S4.o.cells;by_cases hki : k < i
   ·obtain ⟨b', off', hA1', hb, e0, e1, e2, e3⟩ := S4.o.rd.pa.parcel hlt;obtain ⟨b2, off2, hA2, hb2, g0, g1, g2, g3⟩ := S4.o.rd.pa.parcel (show k < f.pa.length by omega);rw [hA1'] at hA2;obtain ⟨rfl, rfl⟩ : b' = b2 /\ off' = off2 := by simpa using hA2
    rw [hA1'] at f2;rw [HP.o] at e0 e1 e2 e3;have HQS := jQ (HSM.o _ (List.getElem_mem (show k < f.pa.length by omega)));obtain ⟨q, hq⟩ := zE (f.pa[k]'(by omega));rw [hq] at g0 g1 g2 g3 HQS;have HQ := jQ hq;have hkp : (k : Int) < (f.pa.length : Int) := by omega
    have hip : (i : Int) < (f.pa.length : Int) := by omega
    clear hA1' hA2 hq hb2;by_cases hse : p.south = q.south
    ·have HC := jQ (fun W => y7D p q HPS.o HQS.o W);have hhit := Dd.yCG hse;have dse : (p.south == q.south) = true := beq_iff_eq.2 hse;obtain ⟨C, hC⟩ := zE (Dd.comQ p q);rw [hC] at HC hhit;have HH := jQ hhit;clear hC hhit hse;have hbw : b' < wr.heap.size := hb;by_cases hc1 : 1 < C
     ·have d9 : decide (C > 1) = true := decide_eq_true hc1;have HRF := jQ (show R = false by
       rw [HD.o];have : Dd.clearA [] f.pa = false := by
        rw [<- Bool.not_eq_true, HCL.o];intro h;have := (h i hlt).2 k (by omega) hki;rw [HP.o, HQ.o, HH.o, decide_eq_true hc1] at this;cases this
       rw [this, Bool.and_false])
      clear hc1;go_wp2_with fail
      go_still_tail 24, (by kernel_rfl)
      change wpList _ _ _ _ _ wr.drew;obtain ⟨w9, hw9⟩ := zE (wr.drew);rw [hw9];have HW9 := jQ hw9;clear hw9;go_wp2_with fail;refine (HC.o _).mono ?_;rintro e wC ⟨rfl, hbc⟩;have S5 := jQ (S4.o.next (show Below wr.heap.size wr wC by have h9 := HW9.o; subst h9; exact ((Below.refl _ _).drew).trans hbc));clear hbc;go_wp2_with fail;go_ret;exact ⟨y00 HRF.o.symm, S5.o.b⟩
     have d9 : decide (C > 1) = false := decide_eq_false (by omega);have HHF := jQ (show Dd.hits p q = false by rw [HH.o]; exact decide_eq_false hc1);clear hc1;go_wp2_with fail
     go_still_tail 24, (by kernel_rfl)
     change wpList _ _ _ _ _ wr.drew;obtain ⟨w9, hw9⟩ := zE (wr.drew);rw [hw9];have HW9 := jQ hw9;clear hw9;go_wp2_with fail;refine (HC.o _).mono ?_;rintro e wC ⟨rfl, hbc⟩;have S5 := jQ (S4.o.next (show Below wr.heap.size wr wC by have h9 := HW9.o; subst h9; exact ((Below.refl _ _).drew).trans hbc));clear hbc;go_wp2_with fail;go_roundw
     case rel =>
      refine ⟨k + 1, by omega, by go_num, fun j h hj => ?_, S5.o⟩;by_cases e : j = k
      ·subst e;rw [HQ.o];exact HHF.o
      exact HB.o j h (by omega)
     case measure => simp [intOf]; omega
    have dse : (p.south == q.south) = false := beq_eq_false_iff_ne.2 hse;have HH := jQ (Dd.yCH hse);clear hse;go_wp2_with fail;go_quiet (fail);go_wp2_with fail;go_roundw
    case rel =>
     refine ⟨k + 1, by omega, by go_num, fun j h hj => ?_, S4.o.next (y05 (Below.refl _ _) _)⟩;by_cases e : j = k
     ·subst e;rw [HQ.o];exact HH.o
     exact HB.o j h (by omega)
    case measure => simp [intOf]; omega
   obtain rfl : k = i := by omega
   have dki : decide ((k : Int) < (k : Int)) = false := decide_eq_false (by omega);go_wp2_with fail;go_roundw
   case rel =>
    refine ⟨k + 1, by omega, by go_num, fun i h hi => ?_, S4.o⟩;by_cases e : i = k
    ·subst e;rw [HP.o];exact ⟨HWE.o, fun j hj hji => HB.o j hj hji⟩
    exact HA.o i h (by omega)
   case measure => simp [intOf]; omega
  have d1 : decide (p.west ≥ p.east) = true := decide_eq_true (by omega);have HRF := jQ (show R = false by
   rw [HD.o];have : Dd.clearA [] f.pa = false := by
    rw [<- Bool.not_eq_true, HCL.o];intro h;have := (h i hlt).1;rw [HP.o] at this;omega
   rw [this, Bool.and_false])
  clear hwe;go_wp2_with fail;go_quiet (fail);go_wp2_with fail;go_ret;exact ⟨y00 HRF.o.symm, y05 S2.o.b _⟩
 have HRT := jQ (show R = true by
  rw [HD.o, HUT.o, Bool.true_and, HCL.o];intro i' hi';exact HA.o i' hi' (by omega))
 obtain rfl : i = f.pa.length := by omega
 go_wp2_with fail;go_ret;exact ⟨y00 HRT.o.symm, S2.o.b⟩
end
end Go.Proofs.YtccikcpcfdjobaaGreatDoor
