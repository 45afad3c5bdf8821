/-
  What the claims of layer deed need of the texts DQf.
-/
import Derived.Test.YtccikcpcfdjobaaGreatDoorBr17
import Derived.Test.YtccikcpcfdjobaaGreatDoorBr16
import Derived.Test.YtccikcpcfdjobaaGreatDoorBr19
import Derived.Test.YtccikcpcfdjobaaGreatDoorBr03
import Derived.Test.YtccikcpcfdjobaaGreatDoorBz
set_option linter.unusedVariables false
set_option linter.unusedSimpArgs false
set_option maxHeartbeats 8000000
set_option maxRecDepth 100000
namespace Go.Proofs.YtccikcpcfdjobaaGreatDoor
section
open Go.RowKit
theorem Dd.range_small {f : Dd.Fd} (hr : Dd.rangeF f = true) (h1 : f.st.length ≤ 12) : ∀ p ∈ f.pa, Dd.Small p := by
 unfold Dd.rangeF at hr
 rw [Bool.and_eq_true, List.all_eq_true, List.all_eq_true] at hr
 intro p hp
 have := hr.2 p hp
 unfold Dd.paOk Dd.isIx at this
 simp only [Bool.and_eq_true, decide_eq_true_eq] at this
 unfold Dd.Small
 omega
set_option maxHeartbeats 16000000 in
theorem qCheckField_any (v : Fv) (f : Dd.Fd) (w : World) (hF : FRd w w.heap.size v f) :
  Calls Tryz.prog 36 #[fval v f] w fun e w' => e = .returned (.int .i64 (Dd.fieldE f)) ∧ Below w.heap.size w w' := by
 have hfe : Dd.fieldE f = if 12 < f.st.length ∨ 10 < f.li.length ∨ 40 < f.pa.length then 2 else if f.st.length < 2 ∨ f.li.length = 0 then 5 else if Cs.varsE f.va ≠ 0 then Cs.varsE f.va
   else if Dd.namesF f = false then 4 else if Dd.distF f = false then 6 else if Dd.rangeF f = false then 1 else if Dd.orderF f = false then 30 else 0 := rfl
 have hl1 := hF.l1
 have hl2 := hF.l2
 have hl3 := hF.l3
 have hl4 := hF.l4
 have S0 := jQ (Fs.new hF)
 have B0 := jQ (fun W (h : Fs w w.heap.size v f W) => rcheckVariations_any v.a4 v.c4 f.va W h.rd.va hl4)
 have B1 := jQ (fun (k : Nat) (hk : k < 3) (h1 : f.st.length ≤ 1000) (h2 : f.li.length ≤ 1000) (h3 : f.pa.length ≤ 1000) (h4 : 1 ≤ f.li.length) W (h : Fs w w.heap.size v f W) => qNames_any v f (k : Int) (by omega) W h.rd h1 h2 h3 h4)
 have B2 := jQ (fun (s : Cs.Bs) (hs : s.length ≤ 1000000) W => qName_any s hs W)
 have B7 := jQ (fun (hs : ∀ p ∈ f.pa, Dd.Small p) W (h : Fs w w.heap.size v f W) => qOrdered_any v f W h.rd hs)
 have HN1 := jQ hF.n1
 have HN2 := jQ hF.n2
 have HN3 := jQ hF.n3
 simp only [fval_def] at B1 B7 ⊢
 obtain ⟨E, hE⟩ : ∃ E, Dd.fieldE f = E := ⟨_, rfl⟩
 rw [hE] at hfe ⊢
 have HFE := jQ hfe
 clear hF hfe hE
 obtain ⟨f0, f1, f2, f3, fl⟩ := S0.o.cells
 by_cases a1 : 12 < f.st.length
 ·have d1 : decide ((f.st.length : Int) > 12) = true := decide_eq_true (by omega)
  have HR := jQ (show E = 2 by rw [HFE.o, if_pos (Or.inl a1)])
  go_enter Tryz.func36, Tryz.ntmps36
  go_wp2_with fail
  go_ret
  exact ⟨ret_int HR.o.symm, S0.o.b⟩
 have d1 : decide ((f.st.length : Int) > 12) = false := decide_eq_false (by omega)
 by_cases a2 : 10 < f.li.length
 ·have d2 : decide ((f.li.length : Int) > 10) = true := decide_eq_true (by omega)
  have HR := jQ (show E = 2 by rw [HFE.o, if_pos (Or.inr (Or.inl a2))])
  go_enter Tryz.func36, Tryz.ntmps36
  go_wp2_with fail
  go_ret
  exact ⟨ret_int HR.o.symm, S0.o.b⟩
 have d2 : decide ((f.li.length : Int) > 10) = false := decide_eq_false (by omega)
 by_cases a3 : 40 < f.pa.length
 ·have d3 : decide ((f.pa.length : Int) > 40) = true := decide_eq_true (by omega)
  have HR := jQ (show E = 2 by rw [HFE.o, if_pos (Or.inr (Or.inr a3))])
  go_enter Tryz.func36, Tryz.ntmps36
  go_wp2_with fail
  go_ret
  exact ⟨ret_int HR.o.symm, S0.o.b⟩
 have d3 : decide ((f.pa.length : Int) > 40) = false := decide_eq_false (by omega)
 have HFE := jQ (HFE.o.trans (if_neg (by omega)))
 by_cases a4 : f.st.length < 2
 ·have d4 : decide ((f.st.length : Int) < 2) = true := decide_eq_true (by omega)
  have HR := jQ (show E = 5 by rw [HFE.o, if_pos (Or.inl a4)])
  go_enter Tryz.func36, Tryz.ntmps36
  go_wp2_with fail
  go_ret
  exact ⟨ret_int HR.o.symm, S0.o.b⟩
 have d4 : decide ((f.st.length : Int) < 2) = false := decide_eq_false (by omega)
 by_cases a5 : f.li.length < 1
 ·have d5 : decide ((f.li.length : Int) < 1) = true := decide_eq_true (by omega)
  have HR := jQ (show E = 5 by rw [HFE.o, if_pos (Or.inr (by omega))])
  go_enter Tryz.func36, Tryz.ntmps36
  go_wp2_with fail
  go_ret
  exact ⟨ret_int HR.o.symm, S0.o.b⟩
 have d5 : decide ((f.li.length : Int) < 1) = false := decide_eq_false (by omega)
 have HFE := jQ (HFE.o.trans (if_neg (by omega)))
 have hs1 : f.st.length ≤ 12 := by omega
 have hs2 : f.li.length ≤ 10 := by omega
 have hs3 : f.pa.length ≤ 40 := by omega
 have hs4 : 1 ≤ f.li.length := by omega
 have hs5 : 2 ≤ f.st.length := by omega
 have HTXT := jQ (fun k => Dd.namesK_txt HN1.o HN2.o HN3.o k)
 have HLEN := jQ (fun k => Dd.namesK_len (f := f) (n := 40) (by omega) (by omega) (by omega) k)
 clear a1 a2 a3 a4 a5
 obtain ⟨ev, hev⟩ : ∃ z, Cs.varsE f.va = z := ⟨_, rfl⟩
 rw [hev] at B0 HFE
 clear hev
 by_cases hv : ev = 0
 ·subst hv
  have HFE := jQ (HFE.o.trans (if_neg (by simp)))
  have dv : ((0 : Int) != 0) = false := rfl
  go_enter Tryz.func36, Tryz.ntmps36
  go_wp2_with fail
  refine (B0.o _ S0.o).mono ?_
  rintro e w1 ⟨rfl, hb⟩
  have S1 := jQ (S0.o.next hb)
  clear hb f0 f1 f2 f3 fl S0 d1 d2 d3 d4 d5
  go_wp2_with fail
  go_loopw [4] (fun I wr => ∃ k : Nat, k ≤ 3 ∧ I = .int .i64 k ∧ (∀ q : Nat, q < k → (Dd.namesK f q).all Dd.nameF = true) ∧ Fs w w.heap.size v f wr) (fun I _ => 3 - (intOf I).toNat)
  case atStart => exact ⟨0, Nat.zero_le _, rfl, (fun q hq => absurd hq (by omega)), S1.o⟩
  case round =>
   clear S1
   obtain ⟨k, hk, rfl, ha, hS⟩ := hrel
   have HA := jQ ha
   have S2 := jQ hS
   clear ha hS
   obtain ⟨f0, f1, f2, f3, fl⟩ := S2.o.cells
   by_cases hk3 : k < 3
   ·have dk : decide ((k : Int) < 3) = true := decide_eq_true (by omega)
    go_wp2_with fail
    refine (B1.o k hk3 (by omega) (by omega) (by omega) hs4 _ S2.o).mono ?_
    rintro e w3 ⟨A, c, rfl, hrd, hb⟩
    have S3 := jQ (S2.o.next hb)
    have HTK := jQ (HTXT.o (k : Int))
    have hll := HLEN.o (k : Int)
    have HRD := jQ hrd
    obtain ⟨L, hL⟩ : ∃ L, Dd.namesK f (k : Int) = L := ⟨_, rfl⟩
    rw [hL] at HTK hll HRD ⊢
    have HL := jQ hL
    clear hb f0 f1 f2 f3 fl S2 hrd hL
    go_wp2_with fail
    go_loopw [6] (fun I wr => ∃ i : Nat, i ≤ L.length ∧ I = .int .i64 i ∧ (∀ j (h : j < L.length), j < i → Dd.nameF L[j] = true) ∧ Fs w w.heap.size v f wr ∧ Rd wr wr.heap.size 1 A L.length (wcells L)) (fun I _ => L.length - (intOf I).toNat)
    case atStart => exact ⟨0, Nat.zero_le _, rfl, (fun j h hj => absurd hj (by omega)), S3.o, HRD.o⟩
    case round =>
     clear S3 HRD
     obtain ⟨i, hi, rfl, hb, hS, hrd⟩ := hrel
     have HB := jQ hb
     have S4 := jQ hS
     have HRD := jQ hrd
     clear hb hS hrd
     by_cases hlt : i < L.length
     ·obtain ⟨b, off, rfl, hb, e0⟩ := HRD.o.text hlt
      have hxl := HTK.o _ (List.getElem_mem hlt)
      obtain ⟨x, hx⟩ : ∃ x, L[i] = x := ⟨_, rfl⟩
      rw [hx] at e0 hxl
      have HX := jQ hx
      have hN := B2.o x hxl
      rcases hnx : Dd.nameF x with _ | _
      ·rw [hnx] at hN
       have HN := jQ hN
       have HR := jQ (show E = 4 by
        rw [HFE.o, if_pos]
        rw [← Bool.not_eq_true, Dd.names_all]
        intro h
        have h2 := h k hk3
        rw [HL.o, List.all_eq_true] at h2
        have h3 := h2 _ (List.getElem_mem hlt)
        rw [HX.o, hnx] at h3
        cases h3)
       clear hN hnx hx hxl
       go_wp2_with fail
       refine (HN.o _).mono ?_
       rintro e w5 ⟨rfl, hb5⟩
       have S5 := jQ (S4.o.next hb5)
       clear hb5
       go_wp2_with fail
       go_ret
       exact ⟨ret_int HR.o.symm, S5.o.b⟩
      ·rw [hnx] at hN
       have HN := jQ hN
       have HNX := jQ hnx
       clear hN hnx hx hxl
       go_wp2_with fail
       refine (HN.o _).mono ?_
       rintro e w5 ⟨rfl, hb5⟩
       have S5 := jQ (S4.o.next hb5)
       have HRD5 := jQ ((HRD.o.below hb5 (Nat.le_refl _)).more hb5.size)
       clear hb5
       go_wp2_with fail
       go_roundw
       case rel =>
        refine ⟨i + 1, by omega, by go_num, fun j h hj => ?_, S5.o, HRD5.o⟩
        by_cases e : j = i
        ·subst e
         rw [HX.o]
         exact HNX.o
        ·exact HB.o j h (by omega)
       case measure => simp [intOf]; omega
     ·have HALL := jQ (show L.all Dd.nameF = true by
       rw [List.all_eq_true]
       intro x hx
       obtain ⟨j, hj, rfl⟩ := List.getElem_of_mem hx
       exact HB.o j hj (by omega))
      obtain rfl : i = L.length := by omega
      go_wp2_with fail
      go_roundw
      case rel =>
       refine ⟨k + 1, by omega, by go_num, fun q hq => ?_, S4.o⟩
       by_cases e : q = k
       ·subst e
        rw [HL.o]
        exact HALL.o
       ·exact HA.o q (by omega)
      case measure => simp [intOf]; omega
   ·have dk : decide ((k : Int) < 3) = false := decide_eq_false (by omega)
    have hnf : Dd.namesF f = true := by
     rw [Dd.names_all]
     intro q hq
     exact HA.o q (by omega)
    have HFE := jQ (HFE.o.trans (if_neg (by rw [hnf]; decide)))
    clear hnf HA
    go_wp2_with fail
    clear f0 f1 f2 f3 fl
    go_loopw [7] (fun I wr => ∃ k : Nat, k ≤ 3 ∧ I = .int .i64 k ∧ (∀ q : Nat, q < k → Dd.dist (Dd.namesK f q) = true) ∧ Fs w w.heap.size v f wr) (fun I _ => 3 - (intOf I).toNat)
    case atStart => exact ⟨0, Nat.zero_le _, rfl, (fun q hq => absurd hq (by omega)), S2.o⟩
    case round =>
     clear S2 hk hk3 dk
     obtain ⟨k, hk, rfl, ha, hS⟩ := hrel
     have HA := jQ ha
     have S2 := jQ hS
     clear ha hS
     obtain ⟨f0, f1, f2, f3, fl⟩ := S2.o.cells
     by_cases hk3 : k < 3
     ·have dk : decide ((k : Int) < 3) = true := decide_eq_true (by omega)
      go_wp2_with fail
      refine (B1.o k hk3 (by omega) (by omega) (by omega) hs4 _ S2.o).mono ?_
      rintro e w3 ⟨A, c, rfl, hrd, hb⟩
      have S3 := jQ (S2.o.next hb)
      have hll := HLEN.o (k : Int)
      have HRD := jQ hrd
      obtain ⟨L, hL⟩ : ∃ L, Dd.namesK f (k : Int) = L := ⟨_, rfl⟩
      rw [hL] at hll HRD ⊢
      have HL := jQ hL
      clear hb f0 f1 f2 f3 fl S2 hrd hL
      go_wp2_with fail
      go_loopw [9] (fun I wr => ∃ i : Nat, i ≤ L.length ∧ I = .int .i64 i ∧ (∀ j (h : j < L.length), j < i → ¬ Dd.idxP (fun x => decide (x = L[j])) L 0 < (j : Int)) ∧ Fs w w.heap.size v f wr ∧ Rd wr wr.heap.size 1 A L.length (wcells L)) (fun I _ => L.length - (intOf I).toNat)
      case atStart => exact ⟨0, Nat.zero_le _, rfl, (fun j h hj => absurd hj (by omega)), S3.o, HRD.o⟩
      case round =>
       clear S3 HRD
       obtain ⟨i, hi, rfl, hb, hS, hrd⟩ := hrel
       have HB := jQ hb
       have S4 := jQ hS
       have HRD := jQ hrd
       clear hb hS hrd
       by_cases hlt : i < L.length
       ·have hP := fun s => qPlace_any A c L s wr HRD.o (by omega)
        obtain ⟨b, off, rfl, hb, e0⟩ := HRD.o.text hlt
        obtain ⟨x, hx⟩ : ∃ x, L[i] = x := ⟨_, rfl⟩
        rw [hx] at e0
        have HX := jQ hx
        have hP := hP x
        obtain ⟨r, hr⟩ : ∃ r, Dd.idxP (fun y => decide (y = x)) L 0 = r := ⟨_, rfl⟩
        rw [hr] at hP
        have HP := jQ hP
        have HRR := jQ hr
        clear hP hr hx
        by_cases hri : r < (i : Int)
        ·have dr : decide (r < (i : Int)) = true := decide_eq_true hri
         have HR := jQ (show E = 6 by
          rw [HFE.o, if_pos]
          rw [← Bool.not_eq_true, Dd.dist_all]
          intro h
          have h2 := h k hk3
          rw [HL.o, Dd.qdist_iff] at h2
          apply h2 i hlt
          rw [HX.o, HRR.o]
          exact hri)
         clear hri
         go_wp2_with fail
         refine HP.o.mono ?_
         rintro e w5 ⟨rfl, hb5⟩
         have S5 := jQ (S4.o.next hb5)
         clear hb5
         go_wp2_with fail
         go_ret
         exact ⟨ret_int HR.o.symm, S5.o.b⟩
        ·have dr : decide (r < (i : Int)) = false := decide_eq_false hri
         have HRI := jQ hri
         clear hri
         go_wp2_with fail
         refine HP.o.mono ?_
         rintro e w5 ⟨rfl, hb5⟩
         have S5 := jQ (S4.o.next hb5)
         have HRD5 := jQ ((HRD.o.below hb5 (Nat.le_refl _)).more hb5.size)
         clear hb5
         go_wp2_with fail
         go_roundw
         case rel =>
          refine ⟨i + 1, by omega, by go_num, fun j h hj => ?_, S5.o, HRD5.o⟩
          by_cases e : j = i
          ·subst e
           rw [HX.o, HRR.o]
           have := HRI.o
           omega
          ·have := HB.o j h (by omega)
           omega
         case measure => simp [intOf]; omega
       ·have HALL := jQ (show Dd.dist L = true by
         rw [Dd.qdist_iff]
         intro j hj
         exact HB.o j hj (by omega))
        obtain rfl : i = L.length := by omega
        go_wp2_with fail
        go_roundw
        case rel =>
         refine ⟨k + 1, by omega, by go_num, fun q hq => ?_, S4.o⟩
         by_cases e : q = k
         ·subst e
          rw [HL.o]
          exact HALL.o
         ·exact HA.o q (by omega)
        case measure => simp [intOf]; omega
     ·have dk : decide ((k : Int) < 3) = false := decide_eq_false (by omega)
      have hdf : Dd.distF f = true := by
       rw [Dd.dist_all]
       intro q hq
       exact HA.o q (by omega)
      have HFE := jQ (HFE.o.trans (if_neg (by rw [hdf]; decide)))
      clear hdf HA
      go_wp2_with fail
      clear f0 f1 f2 f3 fl
      go_loopw [10] (fun I wr => ∃ k : Nat, k ≤ f.st.length ∧ I = .int .i64 k ∧ (∀ j (h : j < f.st.length), j < k → Dd.xOk f.st[j] = true) ∧ Fs w w.heap.size v f wr) (fun I _ => f.st.length - (intOf I).toNat)
      case atStart => exact ⟨0, Nat.zero_le _, rfl, (fun j h hj => absurd hj (by omega)), S2.o⟩
      case round =>
       clear S2 hk hk3 dk
       obtain ⟨k, hk, rfl, ha, hS⟩ := hrel
       have HA := jQ ha
       have S2 := jQ hS
       clear ha hS
       obtain ⟨f0, f1, f2, f3, fl⟩ := S2.o.cells
       by_cases hlt : k < f.st.length
       ·obtain ⟨b, off, hA1, hb, e0, e1⟩ := S2.o.rd.st.station hlt
        have hb2 := hb
        rw [hA1] at f0
        obtain ⟨x, hx⟩ : ∃ x, f.st[k] = x := ⟨_, rfl⟩
        rw [hx] at e0 e1
        have HX := jQ hx
        have hW := fun W => qWithin_any x.2 0 100000 W
        rw [show decide (0 ≤ x.2 ∧ x.2 ≤ 100000) = Dd.xOk x from rfl] at hW
        clear hx hA1
        rcases hxo : Dd.xOk x with _ | _
        ·rw [hxo] at hW
         have HW := jQ hW
         have HR := jQ (show E = 1 by
          have h9 : f.st.all Dd.xOk = false := by
           rw [← Bool.not_eq_true, List.all_eq_true]
           intro h
           have h3 := h _ (List.getElem_mem hlt)
           rw [HX.o, hxo] at h3
           cases h3
          rw [HFE.o, if_pos]
          unfold Dd.rangeF
          rw [h9, Bool.false_and])
         clear hW hxo
         go_wp2_with fail
         refine (HW.o _).mono ?_
         rintro e w5 ⟨rfl, rfl⟩
         go_wp2_with fail
         go_ret
         exact ⟨ret_int HR.o.symm, S2.o.b⟩
        ·rw [hxo] at hW
         have HW := jQ hW
         have HXO := jQ hxo
         clear hW hxo
         go_wp2_with fail
         refine (HW.o _).mono ?_
         rintro e w5 ⟨rfl, rfl⟩
         go_wp2_with fail
         go_roundw
         case rel =>
          refine ⟨k + 1, by omega, by go_num, fun j h hj => ?_, S2.o⟩
          by_cases e : j = k
          ·subst e
           rw [HX.o]
           exact HXO.o
          ·exact HA.o j h (by omega)
         case measure => simp [intOf]; omega
       ·have HST := jQ (show f.st.all Dd.xOk = true by
         rw [List.all_eq_true]
         intro x hx
         obtain ⟨j, hj, rfl⟩ := List.getElem_of_mem hx
         exact HA.o j hj (by omega))
        obtain rfl : k = f.st.length := by omega
        clear HA
        go_wp2_with fail
        clear f0 f1 f2 f3 fl
        go_loopw [11] (fun I wr => ∃ k : Nat, k ≤ f.pa.length ∧ I = .int .i64 k ∧ (∀ j (h : j < f.pa.length), j < k → Dd.paOk f f.pa[j] = true) ∧ Fs w w.heap.size v f wr) (fun I _ => f.pa.length - (intOf I).toNat)
        case atStart => exact ⟨0, Nat.zero_le _, rfl, (fun j h hj => absurd hj (by omega)), S2.o⟩
        case round =>
         clear S2 hk
         obtain ⟨k, hk, rfl, ha, hS⟩ := hrel
         have HA := jQ ha
         have S2 := jQ hS
         clear ha hS
         obtain ⟨f0, f1, f2, f3, fl⟩ := S2.o.cells
         by_cases hlt : k < f.pa.length
         ·obtain ⟨b, off, hA1, hb, e0, e1, e2, e3⟩ := S2.o.rd.pa.parcel hlt
          rw [hA1] at f2
          obtain ⟨x, hx⟩ : ∃ x, f.pa[k] = x := ⟨_, rfl⟩
          rw [hx] at e0 e1 e2 e3
          have HX := jQ hx
          have HBA := jQ ((Below.refl wr.heap.size wr).alloc (Nat.le_refl _) (.cells #[.string ⟨x.name.toArray⟩, .int .i64 x.south, .int .i64 x.west, .int .i64 x.east] 68))
          have hpo : Dd.paOk f x = (decide (0 ≤ x.south ∧ x.south ≤ (f.li.length : Int) - 2) && decide (0 ≤ x.west ∧ x.west ≤ (f.st.length : Int) - 1) && decide (0 ≤ x.east ∧ x.east ≤ (f.st.length : Int) - 1)) := by
           unfold Dd.paOk Dd.isIx
           rw [Bool.eq_iff_iff]
           simp only [Bool.and_eq_true, decide_eq_true_eq]
           omega
          have H1 := fun W => qWithin_any x.south 0 ((f.li.length : Int) - 2) W
          have H2 := fun W => qWithin_any x.west 0 ((f.st.length : Int) - 1) W
          have H3 := fun W => qWithin_any x.east 0 ((f.st.length : Int) - 1) W
          obtain ⟨z1, hz1⟩ : ∃ z, decide (0 ≤ x.south ∧ x.south ≤ (f.li.length : Int) - 2) = z := ⟨_, rfl⟩
          obtain ⟨z2, hz2⟩ : ∃ z, decide (0 ≤ x.west ∧ x.west ≤ (f.st.length : Int) - 1) = z := ⟨_, rfl⟩
          obtain ⟨z3, hz3⟩ : ∃ z, decide (0 ≤ x.east ∧ x.east ≤ (f.st.length : Int) - 1) = z := ⟨_, rfl⟩
          rw [hz1] at hpo H1
          rw [hz2] at hpo H2
          rw [hz3] at hpo H3
          have H1 := jQ H1
          have H2 := jQ H2
          have H3 := jQ H3
          have HPO := jQ hpo
          clear hpo hz1 hz2 hz3 hx hA1
          rcases z1 with _ | _
          ·have HPO := jQ (show Dd.paOk f x = false from HPO.o)
           have HR := jQ (show E = 1 by
            have h9 : f.pa.all (Dd.paOk f) = false := by
             rw [← Bool.not_eq_true, List.all_eq_true]
             intro h
             have h3 := h _ (List.getElem_mem hlt)
             rw [HX.o, HPO.o] at h3
             cases h3
            rw [HFE.o, if_pos]
            unfold Dd.rangeF
            rw [h9, Bool.and_false])
           go_wp2_with fail
           refine (H1.o _).mono ?_
           rintro e w5 ⟨rfl, rfl⟩
           go_wp2_with fail
           go_ret
           exact ⟨ret_int HR.o.symm, (S2.o.next HBA.o).b⟩
          rcases z2 with _ | _
          ·have HPO := jQ (show Dd.paOk f x = false from HPO.o)
           have HR := jQ (show E = 1 by
            have h9 : f.pa.all (Dd.paOk f) = false := by
             rw [← Bool.not_eq_true, List.all_eq_true]
             intro h
             have h3 := h _ (List.getElem_mem hlt)
             rw [HX.o, HPO.o] at h3
             cases h3
            rw [HFE.o, if_pos]
            unfold Dd.rangeF
            rw [h9, Bool.and_false])
           go_wp2_with fail
           refine (H1.o _).mono ?_
           rintro e w5 ⟨rfl, rfl⟩
           go_wp2_with fail
           refine (H2.o _).mono ?_
           rintro e w5 ⟨rfl, rfl⟩
           go_wp2_with fail
           go_ret
           exact ⟨ret_int HR.o.symm, (S2.o.next HBA.o).b⟩
          rcases z3 with _ | _
          ·have HPO := jQ (show Dd.paOk f x = false from HPO.o)
           have HR := jQ (show E = 1 by
            have h9 : f.pa.all (Dd.paOk f) = false := by
             rw [← Bool.not_eq_true, List.all_eq_true]
             intro h
             have h3 := h _ (List.getElem_mem hlt)
             rw [HX.o, HPO.o] at h3
             cases h3
            rw [HFE.o, if_pos]
            unfold Dd.rangeF
            rw [h9, Bool.and_false])
           go_wp2_with fail
           refine (H1.o _).mono ?_
           rintro e w5 ⟨rfl, rfl⟩
           go_wp2_with fail
           refine (H2.o _).mono ?_
           rintro e w5 ⟨rfl, rfl⟩
           go_wp2_with fail
           refine (H3.o _).mono ?_
           rintro e w5 ⟨rfl, rfl⟩
           go_wp2_with fail
           go_ret
           exact ⟨ret_int HR.o.symm, (S2.o.next HBA.o).b⟩
          ·have HPO := jQ (show Dd.paOk f x = true from HPO.o)
           go_wp2_with fail
           refine (H1.o _).mono ?_
           rintro e w5 ⟨rfl, rfl⟩
           go_wp2_with fail
           refine (H2.o _).mono ?_
           rintro e w5 ⟨rfl, rfl⟩
           go_wp2_with fail
           refine (H3.o _).mono ?_
           rintro e w5 ⟨rfl, rfl⟩
           go_wp2_with fail
           go_roundw
           case rel =>
            refine ⟨k + 1, by omega, by go_num, fun j h hj => ?_, S2.o.next HBA.o⟩
            by_cases e : j = k
            ·subst e
             rw [HX.o]
             exact HPO.o
            ·exact HA.o j h (by omega)
           case measure => simp [intOf]; omega
         ·have HRG := jQ (show Dd.rangeF f = true by
           unfold Dd.rangeF
           rw [HST.o, Bool.true_and, List.all_eq_true]
           intro x hx
           obtain ⟨j, hj, rfl⟩ := List.getElem_of_mem hx
           exact HA.o j hj (by omega))
          have HFE := jQ (HFE.o.trans (if_neg (by rw [HRG.o]; decide)))
          have B8 := jQ (B7.o (Dd.range_small HRG.o hs1))
          obtain rfl : k = f.pa.length := by omega
          obtain ⟨o, ho⟩ : ∃ o, Dd.orderF f = o := ⟨_, rfl⟩
          rw [ho] at HFE B8
          clear ho HA
          go_wp2_with fail
          refine (B8.o _ S2.o).mono ?_
          rintro e w5 ⟨rfl, hb⟩
          have S5 := jQ (S2.o.next hb)
          clear hb f0 f1 f2 f3 fl
          rcases o with _ | _
          ·go_wp2_with fail
           go_ret
           exact ⟨ret_int (show (30 : Int) = E by rw [HFE.o]; rfl), S5.o.b⟩
          ·go_wp2_with fail
           go_ret
           exact ⟨ret_int (show (0 : Int) = E by rw [HFE.o]; rfl), S5.o.b⟩
 ·have HR := jQ (show E = ev by rw [HFE.o, if_pos hv])
  have dv : (ev != 0) = true := by simp [hv]
  go_enter Tryz.func36, Tryz.ntmps36
  go_wp2_with fail
  refine (B0.o _ S0.o).mono ?_
  rintro e w1 ⟨rfl, hb⟩
  have S1 := jQ (S0.o.next hb)
  clear hb
  go_wp2_with fail
  go_ret
  exact ⟨ret_int HR.o.symm, S1.o.b⟩
end
end Go.Proofs.YtccikcpcfdjobaaGreatDoor
