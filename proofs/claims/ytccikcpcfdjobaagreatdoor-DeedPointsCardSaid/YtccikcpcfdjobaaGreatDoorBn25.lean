/-
  What the claims of layer deed need of the texts DQc, DQd, DQt.
-/
import Derived.Test.YtccikcpcfdjobaaGreatDoorBn19
import Derived.Test.YtccikcpcfdjobaaGreatDoorBn16
import Derived.Test.YtccikcpcfdjobaaGreatDoorBn20
import Derived.Test.YtccikcpcfdjobaaGreatDoorBn21
import Derived.Test.YtccikcpcfdjobaaGreatDoorBn17
import Derived.Test.YtccikcpcfdjobaaGreatDoorBn22
set_option linter.unusedVariables false
set_option linter.unusedSimpArgs false
namespace Go.Proofs.YtccikcpcfdjobaaGreatDoor
open Go.RowKit
set_option maxRecDepth 100000
set_option maxHeartbeats 4000000 in
theorem qPoints_any (v : Fv) (f : Dd.Fd) (w : World) (hF : FRd w w.heap.size v f) : Calls Tryz.prog 40 #[fval v f] w fun e w' => e = .returned (.int .i64 (Dd.ptsF f)) ∧ Below w.heap.size w w' := by
 have hd : Dd.ptsF f = if Dd.fieldE f = 0 then (Dd.ptsN f : Int) else 0 := rfl
 have hl1 := hF.l1
 have hl2 := hF.l2
 have S0 := Lib.hid (Fs.new hF)
 have B0 := Lib.hid (fun W (h : Fs w w.heap.size v f W) => qCheckField_any v f W h.rd)
 simp only [fval_def] at B0 ⊢
 clear hF
 obtain ⟨E, hE⟩ : ∃ E, Dd.fieldE f = E := ⟨_, rfl⟩
 rw [hE] at B0 hd
 obtain ⟨m0, m1⟩ := mul_small (l := f.li.length) (by omega) (by omega) hl1
 rw [pts_cast] at hd
 obtain ⟨P, hP⟩ : ∃ P, (f.li.length : Int) * (f.st.length : Int) = P := ⟨_, rfl⟩
 rw [hP] at m0 m1 hd
 obtain ⟨R, hR⟩ : ∃ R, Dd.ptsF f = R := ⟨_, rfl⟩
 rw [hR] at hd ⊢
 have HD := Lib.hid hd
 clear hd hR hE
 obtain ⟨f0, f1, f2, f3, fl⟩ := S0.out.cells
 by_cases h0 : E = 0
 ·subst h0
  have HR := Lib.hid (HD.out.trans (if_pos rfl))
  go_enter Tryz.func40, Tryz.ntmps40
  go_wp2_with fail
  refine (B0.out _ S0.out).mono ?_
  rintro e w1 ⟨rfl, hb⟩
  have S1 := Lib.hid (S0.out.next hb)
  clear hb f0 f1 f2 f3 fl S0
  obtain ⟨f0, f1, f2, f3, fl⟩ := S1.out.cells
  go_wp2_with fail
  go_ret
  exact ⟨ret_int HR.out.symm, S1.out.b⟩
 ·have HR := Lib.hid (HD.out.trans (if_neg h0))
  have hne : (E != 0) = true := by simp [h0]
  go_enter Tryz.func40, Tryz.ntmps40
  go_wp2_with fail
  refine (B0.out _ S0.out).mono ?_
  rintro e w1 ⟨rfl, hb⟩
  have S1 := Lib.hid (S0.out.next hb)
  clear hb
  go_wp2_with fail
  go_ret
  exact ⟨ret_int HR.out.symm, S1.out.b⟩
set_option maxHeartbeats 4000000 in
theorem qPointF_any (v : Fv) (f : Dd.Fd) (l s : Int) (w : World) (hF : FRd w w.heap.size v f) :
  Calls Tryz.prog 10 #[fval v f, .int .i64 l, .int .i64 s] w fun e w' => e = .returned (.tuple #[.int .i64 (Dd.pointF f l s).1, .int .i64 (Dd.pointF f l s).2]) ∧ Below w.heap.size w w' := by
 have hd : Dd.pointF f l s = if Dd.fieldE f ≠ 0 then (0, Dd.fieldE f) else if Dd.isIx l f.li.length && Dd.isIx s f.st.length then (Dd.pt f l s, 0) else (0, 1) := rfl
 have hl1 := hF.l1
 have hl2 := hF.l2
 have S0 := Lib.hid (Fs.new hF)
 have B0 := Lib.hid (fun W (h : Fs w w.heap.size v f W) => qCheckField_any v f W h.rd)
 have B1 := Lib.hid (fun W => qCorner_any v f l s hl1 hl2 W)
 have B2 := fun (h : (Dd.isIx l f.li.length && Dd.isIx s f.st.length) = true) W => qPoint_any v f l s hl1 (by simp [Dd.isIx] at h; omega) (by simp [Dd.isIx] at h; omega) (by simp [Dd.isIx] at h; omega) (by simp [Dd.isIx] at h; omega) W
 simp only [fval_def] at B0 B1 B2 ⊢
 clear hF
 obtain ⟨E, hE⟩ : ∃ E, Dd.fieldE f = E := ⟨_, rfl⟩
 rw [hE] at B0 hd
 obtain ⟨c, hc⟩ : ∃ c, (Dd.isIx l f.li.length && Dd.isIx s f.st.length) = c := ⟨_, rfl⟩
 rw [hc] at hd B1 B2
 obtain ⟨R, hR⟩ : ∃ R, Dd.pointF f l s = R := ⟨_, rfl⟩
 rw [hR] at hd ⊢
 obtain ⟨p, hp⟩ : ∃ p, Dd.pt f l s = p := ⟨_, rfl⟩
 rw [hp] at hd B2
 have HD := Lib.hid hd
 have B2 := Lib.hid B2
 clear hd hR hE hc hp
 obtain ⟨f0, f1, f2, f3, fl⟩ := S0.out.cells
 by_cases h0 : E = 0
 ·subst h0
  have HD := Lib.hid (HD.out.trans (if_neg (by simp)))
  go_enter Tryz.func10, Tryz.ntmps10
  go_wp2_with fail
  refine (B0.out _ S0.out).mono ?_
  rintro e w1 ⟨rfl, hb⟩
  have S1 := Lib.hid (S0.out.next hb)
  clear hb f0 f1 f2 f3 fl S0
  obtain ⟨f0, f1, f2, f3, fl⟩ := S1.out.cells
  go_wp2_with fail
  refine (B1.out _).mono ?_
  rintro e w2 ⟨rfl, hb⟩
  have S2 := Lib.hid (S1.out.next hb)
  clear hb f0 f1 f2 f3 fl S1
  obtain ⟨f0, f1, f2, f3, fl⟩ := S2.out.cells
  rcases c with _ | _
  ·have HR := Lib.hid (show R = (0, 1) from HD.out)
   go_wp2_with fail
   go_ret2
   exact ⟨by rw [HR.out]; rfl, S2.out.b⟩
  ·have HR := Lib.hid (show R = (p, 0) from HD.out)
   go_wp2_with fail
   refine (B2.out (by simp) _).mono ?_
   rintro e w3 ⟨rfl, hb⟩
   have S3 := Lib.hid (S2.out.next hb)
   clear hb
   go_wp2_with fail
   go_ret2
   exact ⟨by rw [HR.out]; rfl, S3.out.b⟩
 ·have HR := Lib.hid (HD.out.trans (if_pos h0))
  have hne : (E != 0) = true := by simp [h0]
  go_enter Tryz.func10, Tryz.ntmps10
  go_wp2_with fail
  refine (B0.out _ S0.out).mono ?_
  rintro e w1 ⟨rfl, hb⟩
  have S1 := Lib.hid (S0.out.next hb)
  clear hb
  go_wp2_with fail
  go_ret2
  exact ⟨by rw [HR.out]; rfl, S1.out.b⟩
set_option maxHeartbeats 8000000 in
theorem qCornerF_any (v : Fv) (f : Dd.Fd) (p : Int) (w : World) (hF : FRd w w.heap.size v f) :
  Calls Tryz.prog 12 #[fval v f, .int .i64 p] w fun e w' => e = .returned (.tuple #[.int .i64 (Dd.cornerF f p).1, .int .i64 (Dd.cornerF f p).2.1, .int .i64 (Dd.cornerF f p).2.2]) ∧ Below w.heap.size w w' := by
 have hl1 := hF.l1
 have hl2 := hF.l2
 have S0 := Lib.hid (Fs.new hF)
 have B0 := Lib.hid (fun W (h : Fs w w.heap.size v f W) => qCheckField_any v f W h.rd)
 have B2 := Lib.hid (fun l s (h1 : 0 ≤ l) (h2 : l ≤ 1000000) (h3 : 0 ≤ s) (h4 : s ≤ 1000000) W => qPoint_any v f l s hl1 h1 h2 h3 h4 W)
 simp only [fval_def] at B0 B2 ⊢
 clear hF
 obtain ⟨R, hR⟩ : ∃ R, Dd.cornerF f p = R := ⟨_, rfl⟩
 obtain ⟨E, hE⟩ : ∃ E, Dd.fieldE f = E := ⟨_, rfl⟩
 rw [hE] at B0
 rw [hR]
 have HR0 := Lib.hid hR
 have HE := Lib.hid hE
 clear hR hE
 obtain ⟨f0, f1, f2, f3, fl⟩ := S0.out.cells
 by_cases h0 : E = 0
 ·subst h0
  go_enter Tryz.func12, Tryz.ntmps12
  go_wp2_with fail
  refine (B0.out _ S0.out).mono ?_
  rintro e w1 ⟨rfl, hb⟩
  have S1 := Lib.hid (S0.out.next hb)
  clear hb f0 f1 f2 f3 fl S0
  go_wp2_with fail
  go_loopw [8] (fun I wr => ∃ l : Nat, l ≤ f.li.length ∧ I = .int .i64 l ∧ (∀ i, i < l → ∀ j, j < f.st.length → Dd.pt f i j ≠ p) ∧ Fs w w.heap.size v f wr) (fun I _ => f.li.length - (intOf I).toNat)
  case atStart => exact ⟨0, Nat.zero_le _, rfl, (fun i hi => absurd hi (by omega)), S1.out⟩
  case round =>
   clear S1
   obtain ⟨l, hl, rfl, ha, hS⟩ := hrel
   have HA := Lib.hid ha
   have S2 := Lib.hid hS
   clear ha hS
   obtain ⟨f0, f1, f2, f3, fl⟩ := S2.out.cells
   by_cases hlt : l < f.li.length
   ·go_wp2_with fail
    clear f0 f1 f2 f3 fl
    go_loopw [9] (fun I wr => ∃ s : Nat, s ≤ f.st.length ∧ I = .int .i64 s ∧ (∀ j, j < s → Dd.pt f l j ≠ p) ∧ Fs w w.heap.size v f wr) (fun I _ => f.st.length - (intOf I).toNat)
    case atStart => exact ⟨0, Nat.zero_le _, rfl, (fun j hj => absurd hj (by omega)), S2.out⟩
    case round =>
     clear S2
     obtain ⟨s, hs, rfl, hb, hS⟩ := hrel
     have HB := Lib.hid hb
     have S3 := Lib.hid hS
     clear hb hS
     obtain ⟨f0, f1, f2, f3, fl⟩ := S3.out.cells
     by_cases hst : s < f.st.length
     ·have hP := B2.out l s (by omega) (by omega) (by omega) (by omega)
      obtain ⟨q, hq⟩ : ∃ q, Dd.pt f l s = q := ⟨_, rfl⟩
      rw [hq] at hP
      have HP := Lib.hid hP
      have HQ := Lib.hid hq
      clear hP hq
      by_cases hqp : q = p
      ·subst hqp
       have HR := Lib.hid (show R = ((l : Int), (s : Int), 0) by
        rw [← HR0.out, ← HQ.out]
        exact Dd.corner_at HE.out (by unfold Dd.isIx; exact decide_eq_true (by omega)) (by unfold Dd.isIx; exact decide_eq_true (by omega)))
       go_wp2_with fail
       refine (HP.out _).mono ?_
       rintro e w4 ⟨rfl, hb⟩
       have S4 := Lib.hid (S3.out.next hb)
       clear hb
       go_wp2_with fail
       go_ret3
       exact ⟨by rw [HR.out]; rfl, S4.out.b⟩
      ·have dq : (q == p) = false := beq_eq_false_iff_ne.2 hqp
       have HQP := Lib.hid hqp
       clear hqp
       go_wp2_with fail
       refine (HP.out _).mono ?_
       rintro e w4 ⟨rfl, hb⟩
       have S4 := Lib.hid (S3.out.next hb)
       clear hb
       go_wp2_with fail
       go_roundw
       case rel =>
        refine ⟨s + 1, by omega, by go_num, fun j hj => ?_, S4.out⟩
        by_cases e : j = s
        ·subst e
         rw [HQ.out]
         exact HQP.out
        ·exact HB.out j (by omega)
       case measure => simp [intOf]; omega
     ·obtain rfl : s = f.st.length := by omega
      go_wp2_with fail
      go_roundw
      case rel =>
       refine ⟨l + 1, by omega, by go_num, fun i hi j hj => ?_, S3.out⟩
       by_cases e : i = l
       ·subst e
        exact HB.out j hj
       ·exact HA.out i (by omega) j hj
      case measure => simp [intOf]; omega
   ·have HR := Lib.hid (show R = (0, 0, 1) by
     rw [← HR0.out]
     by_cases hz : (Dd.cornerF f p).2.2 = 0
     ·exfalso
      obtain ⟨-, h1, h2, h3, h4, h5⟩ := Dd.corner_ok (f := f) (p := p) (a := (Dd.cornerF f p).1) (b := (Dd.cornerF f p).2.1) (by rw [← hz])
      unfold Dd.isIx at h3 h4
      have h3 := of_decide_eq_true h3
      have h4 := of_decide_eq_true h4
      apply HA.out (Dd.cornerF f p).1.toNat (by omega) (Dd.cornerF f p).2.1.toNat (by omega)
      rw [Int.toNat_of_nonneg h3.1, Int.toNat_of_nonneg h4.1]
      exact h5.symm
     ·unfold Dd.cornerF at hz ⊢
      rw [if_neg (by rw [HE.out]; decide)] at hz ⊢
      split at hz
      ·exact absurd rfl hz
      ·rename_i hn
       rw [if_neg hn])
    obtain rfl : l = f.li.length := by omega
    go_wp2_with fail
    go_ret3
    exact ⟨by rw [HR.out]; rfl, S2.out.b⟩
 ·have HR := Lib.hid (show R = (0, 0, E) by rw [← HR0.out]; unfold Dd.cornerF; rw [HE.out, if_pos h0])
  have hne : (E != 0) = true := by simp [h0]
  go_enter Tryz.func12, Tryz.ntmps12
  go_wp2_with fail
  refine (B0.out _ S0.out).mono ?_
  rintro e w1 ⟨rfl, hb⟩
  have S1 := Lib.hid (S0.out.next hb)
  clear hb
  go_wp2_with fail
  go_ret3
  exact ⟨by rw [HR.out]; rfl, S1.out.b⟩
set_option maxHeartbeats 4000000 in
theorem qSameInts_same (A1 A2 : Option Addr) (c1 c2 : Nat) (ys : List Int) (w : World) (h1 : Rd w w.heap.size 1 A1 ys.length (icells ys)) (h2 : Rd w w.heap.size 1 A2 ys.length (icells ys)) (hl : ys.length ≤ 1000000) :
  Calls Tryz.prog 19 #[.slice A1 ys.length c1, .slice A2 ys.length c2] w fun e w' => e = .returned (.bool true) ∧ Below w.heap.size w w' := by
 have H1 := Lib.hid h1
 have H2 := Lib.hid h2
 have q1 : ((ys.length : Int) != (ys.length : Int)) = false := by simp
 clear h1 h2
 go_enter Tryz.func19, Tryz.ntmps19
 go_wp2_with fail
 go_loopw [5] (fun I wr => ∃ k : Nat, k ≤ ys.length ∧ I = .int .i64 k ∧ Below w.heap.size w wr) (fun I _ => ys.length - (intOf I).toNat)
 case atStart => exact ⟨0, Nat.zero_le _, rfl, Below.refl _ _⟩
 case round =>
  obtain ⟨k, hk, rfl, hB⟩ := hrel
  have HB := Lib.hid hB
  clear hB
  by_cases hlt : k < ys.length
  ·obtain ⟨b, off, rfl, hb, e0⟩ := (H1.out.below HB.out (Nat.le_refl _)).num hlt
   obtain ⟨b', off', rfl, hb', e0'⟩ := (H2.out.below HB.out (Nat.le_refl _)).num hlt
   have hb2 : b < wr.heap.size := Nat.lt_of_lt_of_le hb HB.out.size
   have hb3 : b' < wr.heap.size := Nat.lt_of_lt_of_le hb' HB.out.size
   obtain ⟨z, hz⟩ : ∃ z, ys[k] = z := ⟨_, rfl⟩
   rw [hz] at e0 e0'
   clear hz
   go_wp2_with fail
   go_quiet (fail)
   go_wp2_with fail
   go_roundw
   case rel => exact ⟨k + 1, by omega, by go_num, below_drewN HB.out _⟩
   case measure => simp [intOf]; omega
  ·obtain rfl : k = ys.length := by omega
   go_wp2_with fail
   go_ret
   exact ⟨rfl, HB.out⟩
end Go.Proofs.YtccikcpcfdjobaaGreatDoor

namespace Go.Proofs.YtccikcpcfdjobaaGreatDoor
open Go.RowKit
set_option maxRecDepth 100000
theorem Dd.qat_nat {y : List Int} {n : Nat} (h : n < y.length) : Dd.at_ y (n : Int) = y[n] := by
 unfold Dd.at_
 rw [Int.toNat_natCast, List.getElem?_eq_getElem h]
 rfl
theorem Dd.qpt_nat (f : Dd.Fd) (l s : Nat) : Dd.pt f l s = ((1 + (l * f.st.length + s) : Nat) : Int) := by
 unfold Dd.pt
 push_cast
 omega
set_option maxHeartbeats 16000000 in
theorem qdrawn_any (v : Fv) (f : Dd.Fd) (A : Option Addr) (c : Nat) (y : List Int) (w : World) (hF : FRd w w.heap.size v f) (hY : Rd w w.heap.size 1 A y.length (icells y)) (hyl : y.length ≤ 1000000) (h0 : Dd.fieldE f = 0) :
  Calls Tryz.prog 54 #[fval v f, .slice A y.length c] w fun e w' => e = .returned (.bool (Dd.drw f y)) ∧ Below w.heap.size w w' := by
 obtain ⟨hs1, hs2, hs3, hs4, -⟩ := Dd.field_facts h0
 obtain ⟨-, hp1, hp2⟩ := Dd.nat_len h0
 have S0 := Lib.hid (Fs.new hF)
 have hl1 := hF.l1
 have B0 := Lib.hid (fun W (h : Fs w w.heap.size v f W) => (show Calls Tryz.prog 40 #[fval v f] W fun e w' => e = .returned (.int .i64 (Dd.ptsN f : Int)) ∧ Below W.heap.size W w' by have h9 := qPoints_any v f W h.rd; rw [show Dd.ptsF f = (Dd.ptsN f : Int) by unfold Dd.ptsF; rw [if_pos h0]] at h9; exact h9))
 have B2 := Lib.hid (fun (l s : Nat) (h1 : l ≤ 1000) (h2 : s ≤ 1000) W => (show Calls Tryz.prog 47 #[fval v f, .int .i64 (l : Int), .int .i64 (s : Int)] W fun e w' => e = .returned (.int .i64 ((1 + (l * f.st.length + s) : Nat) : Int)) ∧ Below W.heap.size W w' by rw [← Dd.qpt_nat]; exact qPoint_any v f l s hl1 (by omega) (by omega) (by omega) (by omega) W))
 have HYD := Lib.hid hY
 obtain ⟨R, hR⟩ : ∃ R, Dd.drw f y = R := ⟨_, rfl⟩
 rw [hR]
 have HR := Lib.hid hR
 have H0 := Lib.hid h0
 obtain ⟨N, hN⟩ : ∃ N, Dd.ptsN f = N := ⟨_, rfl⟩
 have HN := Lib.hid hN
 have hNe : N = 1 + f.li.length * f.st.length := hN.symm.trans rfl
 have HNE := Lib.hid hNe
 rw [hN] at B0 hp1 hp2
 simp only [fval_def] at B0 B2 ⊢
 clear hF hY h0 hR hN hNe
 obtain ⟨f0, f1, f2, f3, fl⟩ := S0.out.cells
 by_cases hlen : y.length = N
 ·have g1 : ((y.length : Int) != (N : Int)) = false := by simp [hlen]
  have hlt : 0 < y.length := by omega
  obtain ⟨b, off, hA, hb, y0⟩ := HYD.out.num hlt
  subst hA
  rw [Nat.add_zero] at y0
  have e0 : Dd.at_ y 0 = y[0] := Dd.qat_nat (n := 0) hlt
  obtain ⟨z, hz⟩ : ∃ z, y[0] = z := ⟨_, rfl⟩
  rw [hz] at y0 e0
  have E0 := Lib.hid e0
  have HY0 := Lib.hid y0
  have hlti : (0 : Int) < (y.length : Int) := by omega
  clear e0 hz y0
  by_cases hz0 : z = 0
  ·have g2 : (z != 0) = false := by simp [hz0]
   have HCOR := Lib.hid (Dd.qdrw_cor H0.out (by rw [HN.out]; exact hlen) (E0.out.trans hz0))
   clear hz0
   go_enter Tryz.func54, Tryz.ntmps54
   go_wp2_with fail
   refine (B0.out _ S0.out).mono ?_
   rintro e w1 ⟨rfl, hb1⟩
   have S1 := Lib.hid (S0.out.next hb1)
   have y0 := (S1.out.b.cell (p := ⟨b, off, none⟩) hb).trans HY0.out
   have hb9 := Nat.lt_of_lt_of_le hb S1.out.b.size
   clear hb1 f0 f1 f2 f3 fl S0
   go_wp2_with fail
   clear y0 hb9 g1 g2
   go_loopw [5] (fun I wr => ∃ l : Nat, l ≤ f.li.length ∧ I = .int .i64 l ∧ (∀ i, i < l → ∀ j, j < f.st.length → Dd.qcorOk f y i j = true) ∧ Fs w w.heap.size v f wr) (fun I _ => f.li.length - (intOf I).toNat)
   case atStart => exact ⟨0, Nat.zero_le _, rfl, (fun i hi => absurd hi (by omega)), S1.out⟩
   case round =>
    clear S1
    obtain ⟨l, hl, rfl, ha, hS⟩ := hrel
    have HA := Lib.hid ha
    have S2 := Lib.hid hS
    clear ha hS
    obtain ⟨f0, f1, f2, f3, fl⟩ := S2.out.cells
    by_cases hll : l < f.li.length
    ·go_wp2_with fail
     clear f0 f1 f2 f3 fl
     go_loopw [6] (fun I wr => ∃ s : Nat, s ≤ f.st.length ∧ I = .int .i64 s ∧ (∀ j, j < s → Dd.qcorOk f y l j = true) ∧ Fs w w.heap.size v f wr) (fun I _ => f.st.length - (intOf I).toNat)
     case atStart => exact ⟨0, Nat.zero_le _, rfl, (fun j hj => absurd hj (by omega)), S2.out⟩
     case round =>
      clear S2
      obtain ⟨s, hs, rfl, hbb, hS⟩ := hrel
      have HB := Lib.hid hbb
      have S3 := Lib.hid hS
      clear hbb hS
      obtain ⟨f0, f1, f2, f3, fl⟩ := S3.out.cells
      by_cases hst : s < f.st.length
      ·have hP := B2.out l s (by omega) (by omega)
       have hlt2 := Dd.qcor_lt hll hst
       have hPlt : 1 + (l * f.st.length + s) < y.length := by rw [hlen, HNE.out]; omega
       have hcor : Dd.qcorOk f y l s = (decide (0 ≤ Dd.at_ y ((1 + (l * f.st.length + s) : Nat) : Int) ∧ Dd.at_ y ((1 + (l * f.st.length + s) : Nat) : Int) ≤ 100000) && (decide (l = 0) || decide (Dd.at_ y (1 + ((l : Int) - 1) * f.st.length + s) ≤ Dd.at_ y ((1 + (l * f.st.length + s) : Nat) : Int)))) := by
        rw [← Dd.qpt_nat]
        rfl
       rw [Dd.qat_nat hPlt] at hcor
       obtain ⟨P, hPP⟩ : ∃ P, 1 + (l * f.st.length + s) = P := ⟨_, rfl⟩
       simp only [hPP] at hP hcor hPlt
       have HP := Lib.hid hP
       obtain ⟨b', off', he, hb', yp⟩ := (HYD.out.below S3.out.b (Nat.le_refl _)).num hPlt
       cases he
       obtain ⟨x, hx⟩ : ∃ x, y[P] = x := ⟨_, rfl⟩
       rw [hx] at hcor yp
       have HC := Lib.hid hcor
       have HYP := Lib.hid yp
       have hPi0 : (0 : Int) ≤ (P : Int) := Int.natCast_nonneg _
       have hPi : (P : Int) < (y.length : Int) := by omega
       have HW := Lib.hid (fun W => qWithin_any x 0 100000 W)
       obtain ⟨z1, hz1⟩ : ∃ z1, decide (0 ≤ x ∧ x ≤ 100000) = z1 := ⟨_, rfl⟩
       rw [hz1] at HW HC
       clear hP hx hcor hPP yp hz1 hlt2 hPlt
       rcases z1 with _ | _
       ·have HRF := Lib.hid (show R = false by
         rw [← HR.out, ← Bool.not_eq_true, HCOR.out]
         intro h
         have h2 := h l hll s hst
         rw [HC.out, Bool.false_and] at h2
         cases h2)
        go_wp2_with fail
        refine (HP.out _).mono ?_
        rintro e w4 ⟨rfl, hb4⟩
        have S4 := Lib.hid (S3.out.next hb4)
        have y1 := (hb4.cell (p := ⟨b, off + P, none⟩) (Nat.lt_of_lt_of_le hb S3.out.b.size)).trans HYP.out
        have hb9 := Nat.lt_of_lt_of_le hb S4.out.b.size
        clear hb4 f0 f1 f2 f3 fl
        go_wp2_with fail
        refine (HW.out _).mono ?_
        rintro e w5 ⟨rfl, rfl⟩
        go_wp2_with fail
        go_ret
        exact ⟨ret_bool HRF.out.symm, S4.out.b⟩
       ·by_cases hl0 : l = 0
        ·have HCT := Lib.hid (show Dd.qcorOk f y l s = true by rw [HC.out, decide_eq_true hl0]; rfl)
         have gl : decide (0 < l) = false := decide_eq_false (by omega)
         clear hl0
         go_wp2_with fail
         refine (HP.out _).mono ?_
         rintro e w4 ⟨rfl, hb4⟩
         have S4 := Lib.hid (S3.out.next hb4)
         have y1 := (hb4.cell (p := ⟨b, off + P, none⟩) (Nat.lt_of_lt_of_le hb S3.out.b.size)).trans HYP.out
         have hb9 := Nat.lt_of_lt_of_le hb S4.out.b.size
         clear hb4 f0 f1 f2 f3 fl
         go_wp2_with fail
         refine (HW.out _).mono ?_
         rintro e w5 ⟨rfl, rfl⟩
         go_wp2_with fail
         go_roundw
         case rel =>
          refine ⟨s + 1, by omega, by go_num, fun j hj => ?_, S4.out⟩
          by_cases e : j = s
          ·subst e
           exact HCT.out
          ·exact HB.out j (by omega)
         case measure => simp [intOf]; omega
        ·obtain ⟨m, hm⟩ : ∃ m, l = m + 1 := ⟨l - 1, by omega⟩
         have hm1 : (l : Int) - 1 = (m : Int) := by omega
         have gl : decide (0 < l) = true := decide_eq_true (by omega)
         have hP2 := B2.out m s (by omega) (by omega)
         have hlt3 := Dd.qcor_lt (show m < f.li.length by omega) hst
         have hQlt : 1 + (m * f.st.length + s) < y.length := by rw [hlen, HNE.out]; omega
         have hcor := HC.out
         rw [decide_eq_false hl0, Bool.false_or, Bool.true_and, hm1, show (1 : Int) + (m : Int) * f.st.length + (s : Int) = ((1 + (m * f.st.length + s) : Nat) : Int) from Dd.qpt_nat f m s, Dd.qat_nat hQlt] at hcor
         obtain ⟨Q, hQQ⟩ : ∃ Q, 1 + (m * f.st.length + s) = Q := ⟨_, rfl⟩
         simp only [hQQ] at hP2 hcor hQlt
         have HP2 := Lib.hid hP2
         obtain ⟨b', off', he, hb', yq⟩ := (HYD.out.below S3.out.b (Nat.le_refl _)).num hQlt
         cases he
         obtain ⟨u, hu⟩ : ∃ u, y[Q] = u := ⟨_, rfl⟩
         rw [hu] at hcor yq
         have HC2 := Lib.hid hcor
         have HYQ := Lib.hid yq
         have hQi0 : (0 : Int) ≤ (Q : Int) := Int.natCast_nonneg _
         have hQi : (Q : Int) < (y.length : Int) := by omega
         clear hP2 hu hcor hQQ yq hlt3 hQlt hl0 hm
         by_cases hxu : u ≤ x
         ·have gx : decide (x < u) = false := decide_eq_false (by omega)
          have HCT := Lib.hid (show Dd.qcorOk f y l s = true by rw [HC2.out]; exact decide_eq_true hxu)
          clear hxu
          go_wp2_with fail
          refine (HP.out _).mono ?_
          rintro e w4 ⟨rfl, hb4⟩
          have S4 := Lib.hid (S3.out.next hb4)
          have y1 := (hb4.cell (p := ⟨b, off + P, none⟩) (Nat.lt_of_lt_of_le hb S3.out.b.size)).trans HYP.out
          have HYQ4 := Lib.hid ((hb4.cell (p := ⟨b, off + Q, none⟩) (Nat.lt_of_lt_of_le hb S3.out.b.size)).trans HYQ.out)
          have hb9 := Nat.lt_of_lt_of_le hb S4.out.b.size
          clear hb4 f0 f1 f2 f3 fl
          obtain ⟨f0, f1, f2, f3, fl⟩ := S4.out.cells
          go_wp2_with fail
          refine (HW.out _).mono ?_
          rintro e w5 ⟨rfl, rfl⟩
          go_wp2_with fail
          refine (HP2.out _).mono ?_
          rintro e w6 ⟨rfl, hb6⟩
          have S6 := Lib.hid (S4.out.next hb6)
          have y2 := (hb6.cell (p := ⟨b, off + Q, none⟩) hb9).trans HYQ4.out
          have hb10 := Nat.lt_of_lt_of_le hb S6.out.b.size
          clear hb6 f0 f1 f2 f3 fl y1
          go_wp2_with fail
          go_roundw
          case rel =>
           refine ⟨s + 1, by omega, by go_num, fun j hj => ?_, S6.out⟩
           by_cases e : j = s
           ·subst e
            exact HCT.out
           ·exact HB.out j (by omega)
          case measure => simp [intOf]; omega
         ·have gx : decide (x < u) = true := decide_eq_true (by omega)
          have HRF := Lib.hid (show R = false by
           rw [← HR.out, ← Bool.not_eq_true, HCOR.out]
           intro h
           have h2 := h l hll s hst
           rw [HC2.out] at h2
           exact hxu (of_decide_eq_true h2))
          clear hxu
          go_wp2_with fail
          refine (HP.out _).mono ?_
          rintro e w4 ⟨rfl, hb4⟩
          have S4 := Lib.hid (S3.out.next hb4)
          have y1 := (hb4.cell (p := ⟨b, off + P, none⟩) (Nat.lt_of_lt_of_le hb S3.out.b.size)).trans HYP.out
          have HYQ4 := Lib.hid ((hb4.cell (p := ⟨b, off + Q, none⟩) (Nat.lt_of_lt_of_le hb S3.out.b.size)).trans HYQ.out)
          have hb9 := Nat.lt_of_lt_of_le hb S4.out.b.size
          clear hb4 f0 f1 f2 f3 fl
          obtain ⟨f0, f1, f2, f3, fl⟩ := S4.out.cells
          go_wp2_with fail
          refine (HW.out _).mono ?_
          rintro e w5 ⟨rfl, rfl⟩
          go_wp2_with fail
          refine (HP2.out _).mono ?_
          rintro e w6 ⟨rfl, hb6⟩
          have S6 := Lib.hid (S4.out.next hb6)
          have y2 := (hb6.cell (p := ⟨b, off + Q, none⟩) hb9).trans HYQ4.out
          have hb10 := Nat.lt_of_lt_of_le hb S6.out.b.size
          clear hb6 f0 f1 f2 f3 fl y1
          go_wp2_with fail
          go_ret
          exact ⟨ret_bool HRF.out.symm, S6.out.b⟩
      ·obtain rfl : s = f.st.length := by omega
       go_wp2_with fail
       go_roundw
       case rel =>
        refine ⟨l + 1, by omega, by go_num, fun i hi j hj => ?_, S3.out⟩
        by_cases e : i = l
        ·subst e
         exact HB.out j hj
        ·exact HA.out i (by omega) j hj
       case measure => simp [intOf]; omega
    ·have HRT := Lib.hid (show R = true by
      rw [← HR.out, HCOR.out]
      intro i hi j hj
      exact HA.out i (by omega) j hj)
     obtain rfl : l = f.li.length := by omega
     go_wp2_with fail
     go_ret
     exact ⟨ret_bool HRT.out.symm, S2.out.b⟩
  ·have g2 : (z != 0) = true := by simp [hz0]
   have HRF := Lib.hid (show R = false by
    rw [← HR.out]
    unfold Dd.drw
    rw [E0.out, decide_eq_false hz0, Bool.and_false, Bool.false_and, Bool.false_and])
   clear hz0
   go_enter Tryz.func54, Tryz.ntmps54
   go_wp2_with fail
   refine (B0.out _ S0.out).mono ?_
   rintro e w1 ⟨rfl, hb1⟩
   have S1 := Lib.hid (S0.out.next hb1)
   have y0 := (S1.out.b.cell (p := ⟨b, off, none⟩) hb).trans HY0.out
   have hb9 := Nat.lt_of_lt_of_le hb S1.out.b.size
   clear hb1 f0 f1 f2 f3 fl S0
   go_wp2_with fail
   go_ret
   exact ⟨ret_bool HRF.out.symm, S1.out.b⟩
 ·have g1 : ((y.length : Int) != (N : Int)) = true := by simp; omega
  have HRF := Lib.hid (show R = false by
   rw [← HR.out]
   unfold Dd.drw
   rw [HN.out, decide_eq_false hlen, Bool.false_and, Bool.false_and, Bool.false_and])
  go_enter Tryz.func54, Tryz.ntmps54
  go_wp2_with fail
  refine (B0.out _ S0.out).mono ?_
  rintro e w1 ⟨rfl, hb1⟩
  have S1 := Lib.hid (S0.out.next hb1)
  clear hb1
  go_wp2_with fail
  go_ret
  exact ⟨ret_bool HRF.out.symm, S1.out.b⟩
set_option maxHeartbeats 4000000 in
theorem qDrawnF_any (v : Fv) (f : Dd.Fd) (A : Option Addr) (c : Nat) (y : List Int) (w : World) (hF : FRd w w.heap.size v f) (hY : Rd w w.heap.size 1 A y.length (icells y)) (hyl : y.length ≤ 1000000) :
  Calls Tryz.prog 16 #[fval v f, .slice A y.length c] w fun e w' => e = .returned (.tuple #[.bool (Dd.drawnF f y).1, .int .i64 (Dd.drawnF f y).2]) ∧ Below w.heap.size w w' := by
 have hd : Dd.drawnF f y = if Dd.fieldE f ≠ 0 then (false, Dd.fieldE f) else (Dd.drw f y, 0) := rfl
 have S0 := Lib.hid (Fs.new hF)
 have B0 := Lib.hid (fun W (h : Fs w w.heap.size v f W) => qCheckField_any v f W h.rd)
 have B1 := Lib.hid (fun (h0 : Dd.fieldE f = 0) W (h : Fs w w.heap.size v f W) => qdrawn_any v f A c y W h.rd ((hY.below h.b (Nat.le_refl _)).more h.b.size) hyl h0)
 simp only [fval_def] at B0 B1 ⊢
 clear hF hY
 obtain ⟨E, hE⟩ : ∃ E, Dd.fieldE f = E := ⟨_, rfl⟩
 obtain ⟨r, hr⟩ : ∃ r, Dd.drw f y = r := ⟨_, rfl⟩
 rw [hE, hr] at hd
 rw [hE] at B0
 rw [hr] at B1
 obtain ⟨R, hR⟩ : ∃ R, Dd.drawnF f y = R := ⟨_, rfl⟩
 rw [hR] at hd ⊢
 have HD := Lib.hid hd
 have HE := Lib.hid hE
 clear hd hR hr hE
 obtain ⟨f0, f1, f2, f3, fl⟩ := S0.out.cells
 by_cases h0 : E = 0
 ·subst h0
  have HR := Lib.hid (HD.out.trans (if_neg (by simp)))
  have B1 := Lib.hid (B1.out HE.out)
  go_enter Tryz.func16, Tryz.ntmps16
  go_wp2_with fail
  refine (B0.out _ S0.out).mono ?_
  rintro e w1 ⟨rfl, hb⟩
  have S1 := Lib.hid (S0.out.next hb)
  clear hb f0 f1 f2 f3 fl S0
  obtain ⟨f0, f1, f2, f3, fl⟩ := S1.out.cells
  go_wp2_with fail
  refine (B1.out _ S1.out).mono ?_
  rintro e w2 ⟨rfl, hb⟩
  have S2 := Lib.hid (S1.out.next hb)
  clear hb
  go_wp2_with fail
  go_ret2
  exact ⟨by rw [HR.out]; rfl, S2.out.b⟩
 ·have HR := Lib.hid (HD.out.trans (if_pos h0))
  have hne : (E != 0) = true := by simp [h0]
  go_enter Tryz.func16, Tryz.ntmps16
  go_wp2_with fail
  refine (B0.out _ S0.out).mono ?_
  rintro e w1 ⟨rfl, hb⟩
  have S1 := Lib.hid (S0.out.next hb)
  clear hb
  go_wp2_with fail
  go_ret2
  exact ⟨by rw [HR.out]; rfl, S1.out.b⟩
end Go.Proofs.YtccikcpcfdjobaaGreatDoor

namespace Go.Proofs.YtccikcpcfdjobaaGreatDoor
open Go.RowKit
set_option maxRecDepth 100000
set_option maxHeartbeats 16000000 in
theorem qAt_any (v : Fv) (f : Dd.Fd) (s o : Int) (A : Option Addr) (c : Nat) (y : List Int) (w : World) (hF : FRd w w.heap.size v f) (hY : Rd w w.heap.size 1 A y.length (icells y)) (hyl : y.length ≤ 1000000) :
  Calls Tryz.prog 18 #[fval v f, .int .i64 s, .int .i64 o, .slice A y.length c] w fun e w' => e = .returned (.tuple #[.int .i64 (Dd.atF f s o y).1, .int .i64 (Dd.atF f s o y).2]) ∧ Below w.heap.size w w' := by
 have hd : Dd.atF f s o y = if Dd.fieldE f ≠ 0 then (0, Dd.fieldE f) else if Dd.isIx s f.st.length && decide (0 ≤ o ∧ o ≤ 100000) && Dd.drw f y then
  (if Dd.idxP (Dd.hasP f s o y) f.pa 0 < 0 then (0, 5) else (Dd.idxP (Dd.hasP f s o y) f.pa 0, 0)) else (0, 1) := rfl
 have hl1 := hF.l1
 have S0 := Lib.hid (Fs.new hF)
 have B0 := Lib.hid (fun W (h : Fs w w.heap.size v f W) => qCheckField_any v f W h.rd)
 have B1 := Lib.hid (fun (h0 : Dd.fieldE f = 0) W (h : Fs w w.heap.size v f W) => qdrawn_any v f A c y W h.rd ((hY.below h.b (Nat.le_refl _)).more h.b.size) hyl h0)
 have B2 := Lib.hid (fun (l s : Int) (h1 : 0 ≤ l) (h2 : l ≤ 1000000) (h3 : 0 ≤ s) (h4 : s ≤ 1000000) W => qPoint_any v f l s hl1 h1 h2 h3 h4 W)
 have HYD := Lib.hid hY
 simp only [fval_def] at B0 B1 B2 ⊢
 clear hF hY
 obtain ⟨R, hR⟩ : ∃ R, Dd.atF f s o y = R := ⟨_, rfl⟩
 obtain ⟨E, hE⟩ : ∃ E, Dd.fieldE f = E := ⟨_, rfl⟩
 rw [hR] at hd ⊢
 rw [hE] at B0 hd
 have HD := Lib.hid hd
 have HE := Lib.hid hE
 clear hd hR hE
 obtain ⟨f0, f1, f2, f3, fl⟩ := S0.out.cells
 by_cases h0 : E = 0
 ·subst h0
  have HD := Lib.hid (HD.out.trans (if_neg (by simp)))
  have B1 := Lib.hid (B1.out HE.out)
  obtain ⟨hs1, hs2, hs3, hs4, hs5, -, -, -, hrg, -⟩ := Dd.field_facts HE.out
  have HRG := Lib.hid hrg
  have H1 := fun W => qWithin_any s 0 ((f.st.length : Int) - 1) W
  have H2 := fun W => qWithin_any o 0 100000 W
  rw [show decide (0 ≤ s ∧ s ≤ (f.st.length : Int) - 1) = Dd.isIx s f.st.length by unfold Dd.isIx; rw [Bool.eq_iff_iff]; simp only [decide_eq_true_eq]; omega] at H1
  obtain ⟨z1, hz1⟩ : ∃ z, Dd.isIx s f.st.length = z := ⟨_, rfl⟩
  obtain ⟨z2, hz2⟩ : ∃ z, decide (0 ≤ o ∧ o ≤ 100000) = z := ⟨_, rfl⟩
  obtain ⟨z3, hz3⟩ : ∃ z, Dd.drw f y = z := ⟨_, rfl⟩
  rw [hz1] at H1 HD
  rw [hz2] at H2 HD
  rw [hz3] at B1 HD
  have H1 := Lib.hid H1
  have H2 := Lib.hid H2
  have HZ1 := Lib.hid hz1
  have HZ3 := Lib.hid hz3
  clear hz1 hz2 hz3 hrg
  rcases z1 with _ | _
  ·have HR := Lib.hid (show R = (0, 1) from HD.out)
   go_enter Tryz.func18, Tryz.ntmps18
   go_wp2_with fail
   refine (B0.out _ S0.out).mono ?_
   rintro e w1 ⟨rfl, hb⟩
   have S1 := Lib.hid (S0.out.next hb)
   clear hb f0 f1 f2 f3 fl S0
   obtain ⟨f0, f1, f2, f3, fl⟩ := S1.out.cells
   go_wp2_with fail
   refine (H1.out _).mono ?_
   rintro e w9 ⟨rfl, rfl⟩
   go_wp2_with fail
   go_ret2
   exact ⟨by rw [HR.out]; rfl, S1.out.b⟩
  rcases z2 with _ | _
  ·have HR := Lib.hid (show R = (0, 1) from HD.out)
   go_enter Tryz.func18, Tryz.ntmps18
   go_wp2_with fail
   refine (B0.out _ S0.out).mono ?_
   rintro e w1 ⟨rfl, hb⟩
   have S1 := Lib.hid (S0.out.next hb)
   clear hb f0 f1 f2 f3 fl S0
   obtain ⟨f0, f1, f2, f3, fl⟩ := S1.out.cells
   go_wp2_with fail
   refine (H1.out _).mono ?_
   rintro e w9 ⟨rfl, rfl⟩
   go_wp2_with fail
   refine (H2.out _).mono ?_
   rintro e w9 ⟨rfl, rfl⟩
   go_wp2_with fail
   go_ret2
   exact ⟨by rw [HR.out]; rfl, S1.out.b⟩
  rcases z3 with _ | _
  ·have HR := Lib.hid (show R = (0, 1) from HD.out)
   go_enter Tryz.func18, Tryz.ntmps18
   go_wp2_with fail
   refine (B0.out _ S0.out).mono ?_
   rintro e w1 ⟨rfl, hb⟩
   have S1 := Lib.hid (S0.out.next hb)
   clear hb f0 f1 f2 f3 fl S0
   obtain ⟨f0, f1, f2, f3, fl⟩ := S1.out.cells
   go_wp2_with fail
   refine (H1.out _).mono ?_
   rintro e w9 ⟨rfl, rfl⟩
   go_wp2_with fail
   refine (H2.out _).mono ?_
   rintro e w9 ⟨rfl, rfl⟩
   go_wp2_with fail
   refine (B1.out _ S1.out).mono ?_
   rintro e w2 ⟨rfl, hb⟩
   have S2 := Lib.hid (S1.out.next hb)
   clear hb f0 f1 f2 f3 fl S1
   go_wp2_with fail
   go_ret2
   exact ⟨by rw [HR.out]; rfl, S2.out.b⟩
  have HD := Lib.hid (show R = if Dd.idxP (Dd.hasP f s o y) f.pa 0 < 0 then (0, 5) else (Dd.idxP (Dd.hasP f s o y) f.pa 0, 0) from HD.out)
  have hsx := of_decide_eq_true (show decide (0 ≤ s ∧ s < (f.st.length : Int)) = true from HZ1.out)
  have hylen := (Dd.drw_iff.1 HZ3.out).1
  have HYL := Lib.hid hylen
  clear hylen
  go_enter Tryz.func18, Tryz.ntmps18
  go_wp2_with fail
  refine (B0.out _ S0.out).mono ?_
  rintro e w1 ⟨rfl, hb⟩
  have S1 := Lib.hid (S0.out.next hb)
  clear hb f0 f1 f2 f3 fl S0
  obtain ⟨f0, f1, f2, f3, fl⟩ := S1.out.cells
  go_wp2_with fail
  refine (H1.out _).mono ?_
  rintro e w9 ⟨rfl, rfl⟩
  go_wp2_with fail
  refine (H2.out _).mono ?_
  rintro e w9 ⟨rfl, rfl⟩
  go_wp2_with fail
  refine (B1.out _ S1.out).mono ?_
  rintro e w2 ⟨rfl, hb⟩
  have S2 := Lib.hid (S1.out.next hb)
  clear hb f0 f1 f2 f3 fl S1
  go_wp2_with fail
  go_loopw [11] (fun I wr => ∃ k : Nat, k ≤ f.pa.length ∧ I = .int .i64 k ∧ (∀ j (h : j < f.pa.length), j < k → Dd.hasP f s o y f.pa[j] = false) ∧ Fs w w.heap.size v f wr) (fun I _ => f.pa.length - (intOf I).toNat)
  case atStart => exact ⟨0, Nat.zero_le _, rfl, (fun j h hj => absurd hj (by omega)), S2.out⟩
  case round =>
   clear S2
   obtain ⟨k, hk, rfl, ha, hS⟩ := hrel
   have HA := Lib.hid ha
   have S3 := Lib.hid hS
   clear ha hS
   obtain ⟨f0, f1, f2, f3, fl⟩ := S3.out.cells
   by_cases hlt : k < f.pa.length
   ·obtain ⟨b, off, hA1, hb, e0, e1, e2, e3⟩ := S3.out.rd.pa.parcel hlt
    have f2' := f2
    rw [hA1] at f2'
    have hpo : Dd.paOk f f.pa[k] = true := by
     have := HRG.out
     unfold Dd.rangeF at this
     rw [Bool.and_eq_true, List.all_eq_true, List.all_eq_true] at this
     exact this.2 _ (List.getElem_mem hlt)
    obtain ⟨x, hx⟩ : ∃ x, f.pa[k] = x := ⟨_, rfl⟩
    rw [hx] at e0 e1 e2 e3 hpo
    have HX := Lib.hid hx
    have hso : 0 ≤ x.south ∧ x.south ≤ (f.li.length : Int) - 2 := by
     unfold Dd.paOk Dd.isIx at hpo
     simp only [Bool.and_eq_true, decide_eq_true_eq] at hpo
     omega
    have hhas : Dd.hasP f s o y x = (decide (x.west ≤ s) && decide (s < x.east) && decide (Dd.at_ y (Dd.pt f x.south s) ≤ o) && decide (o < Dd.at_ y (Dd.pt f (x.south + 1) s))) := rfl
    have HH0 := Lib.hid hhas
    have S4 := Lib.hid (S3.out.next ((Below.refl wr.heap.size wr).alloc (Nat.le_refl _) (.cells #[.string ⟨x.name.toArray⟩, .int .i64 x.south, .int .i64 x.west, .int .i64 x.east] 68)))
    have KX := Lib.hid (Bk.new wr 68 #[.string ⟨x.name.toArray⟩, .int .i64 x.south, .int .i64 x.west, .int .i64 x.east])
    clear hpo hx hA1 f2 hhas
    go_upto_region 10 with fail
    refine wp_cutW (fun V => Fs w w.heap.size v f V ∧ Bk V wr.heap.size 68 #[.string ⟨x.name.toArray⟩, .int .i64 x.south, .int .i64 x.west, .int .i64 x.east]) ⟨S4.out, KX.out⟩ ?_
    rintro W5 ⟨hS, hkx⟩
    have S5 := Lib.hid hS
    have K5 := Lib.hid hkx
    obtain ⟨g, hg⟩ : ∃ g, wr.heap.size = g := ⟨_, rfl⟩
    rw [hg] at K5 ⊢
    clear S3 S4 KX f0 f1 f2' f3 fl e0 e1 e2 e3 hb hS hkx hg
    obtain ⟨f0, f1, f2, f3, fl⟩ := S5.out.cells
    have x0 := (K5.out.cell 0).trans rfl
    have x1 := (K5.out.cell 1).trans rfl
    have x2 := (K5.out.cell 2).trans rfl
    have x3 := (K5.out.cell 3).trans rfl
    have xl := K5.out.lt
    by_cases c1 : x.west ≤ s
    ·have d1 : decide (s ≥ x.west) = true := decide_eq_true c1
     by_cases c2 : s < x.east
     ·have d2 : decide (s < x.east) = true := decide_eq_true c2
      obtain ⟨sn, hsn⟩ : ∃ n : Nat, s = n := ⟨s.toNat, by omega⟩
      obtain ⟨qn, hqn⟩ : ∃ n : Nat, x.south = n := ⟨x.south.toNat, by omega⟩
      have hpt1 : Dd.pt f x.south s = ((1 + (qn * f.st.length + sn) : Nat) : Int) := by rw [hsn, hqn]; exact Dd.qpt_nat f qn sn
      have hpt2 : Dd.pt f (x.south + 1) s = ((1 + ((qn + 1) * f.st.length + sn) : Nat) : Int) := by rw [hsn, hqn]; exact Dd.qpt_nat f (qn + 1) sn
      have l1 := Dd.qcor_lt (m := f.li.length) (n := f.st.length) (show qn < f.li.length by omega) (show sn < f.st.length by omega)
      have l2 := Dd.qcor_lt (m := f.li.length) (n := f.st.length) (show qn + 1 < f.li.length by omega) (show sn < f.st.length by omega)
      have hN : Dd.ptsN f = 1 + f.li.length * f.st.length := rfl
      have hy1 : 1 + (qn * f.st.length + sn) < y.length := by rw [HYL.out, hN]; omega
      have hy2 : 1 + ((qn + 1) * f.st.length + sn) < y.length := by rw [HYL.out, hN]; omega
      have hP1 := B2.out x.south s (by omega) (by omega) (by omega) (by omega)
      have hP2 := B2.out (x.south + 1) s (by omega) (by omega) (by omega) (by omega)
      have HH1 := HH0.out
      rw [hpt1, hpt2, Dd.qat_nat hy1, Dd.qat_nat hy2, decide_eq_true c1, decide_eq_true c2, Bool.true_and, Bool.true_and] at HH1
      rw [hpt1] at hP1
      rw [hpt2] at hP2
      obtain ⟨P, hP⟩ : ∃ P, 1 + (qn * f.st.length + sn) = P := ⟨_, rfl⟩
      obtain ⟨Q, hQ⟩ : ∃ P, 1 + ((qn + 1) * f.st.length + sn) = P := ⟨_, rfl⟩
      simp only [hP, hQ] at HH1 hP1 hP2 hy1 hy2
      have HP1 := Lib.hid hP1
      have HP2 := Lib.hid hP2
      obtain ⟨by1, oy1, hA, hby1, yp⟩ := (HYD.out.below S5.out.b (Nat.le_refl _)).num hy1
      subst hA
      obtain ⟨b', off', he, hb', yq⟩ := (HYD.out.below S5.out.b (Nat.le_refl _)).num hy2
      cases he
      obtain ⟨u, hu⟩ : ∃ u, y[P] = u := ⟨_, rfl⟩
      obtain ⟨r, hr⟩ : ∃ u, y[Q] = u := ⟨_, rfl⟩
      rw [hu] at HH1 yp
      rw [hr] at HH1 yq
      have HH2 := Lib.hid HH1
      have hPi0 : (0 : Int) ≤ (P : Int) := Int.natCast_nonneg _
      have hPi : (P : Int) < (y.length : Int) := by omega
      have hQi0 : (0 : Int) ≤ (Q : Int) := Int.natCast_nonneg _
      have hQi : (Q : Int) < (y.length : Int) := by omega
      have HYP := Lib.hid yp
      have HYQ := Lib.hid yq
      have hw1 : IntKind.i64.wrap (x.south + 1) = x.south + 1 := IntWalk.i64_in _ (by omega)
      clear hsn hqn hpt1 hpt2 l1 l2 hN hy1 hy2 hP1 hP2 HH1 hP hQ hu hr yp yq c1 c2 hso hsx
      by_cases c3 : u ≤ o
      ·have d3 : decide (o ≥ u) = true := decide_eq_true c3
       by_cases c4 : o < r
       ·have d4 : decide (o < r) = true := decide_eq_true c4
        have HR := Lib.hid (show R = ((k : Int), 0) by
         have hi : Dd.idxP (Dd.hasP f s o y) f.pa 0 = (k : Int) := Dd.idxP_at hlt (by rw [HX.out, HH2.out, decide_eq_true c3, decide_eq_true c4]; rfl) (fun j hj => HA.out j (by omega) hj)
         rw [HD.out, hi, if_neg (by omega)])
        clear c3 c4
        go_wp2_with fail
        refine (HP1.out _).mono ?_
        rintro e w6 ⟨rfl, hb6⟩
        have S6 := Lib.hid (S5.out.next hb6)
        have K6 := Lib.hid (K5.out.below hb6 xl)
        have y1 := (hb6.cell (p := ⟨by1, oy1 + P, none⟩) (Nat.lt_of_lt_of_le hby1 S5.out.b.size)).trans HYP.out
        have HYQ6 := Lib.hid ((hb6.cell (p := ⟨by1, oy1 + Q, none⟩) (Nat.lt_of_lt_of_le hby1 S5.out.b.size)).trans HYQ.out)
        have hb9 := Nat.lt_of_lt_of_le hby1 S6.out.b.size
        clear hb6 f0 f1 f2 f3 fl x0 x1 x2 x3 xl
        obtain ⟨f0, f1, f2, f3, fl⟩ := S6.out.cells
        have x0 := (K6.out.cell 0).trans rfl
        have x1 := (K6.out.cell 1).trans rfl
        have x2 := (K6.out.cell 2).trans rfl
        have x3 := (K6.out.cell 3).trans rfl
        have xl := K6.out.lt
        go_wp2_with fail
        refine (HP2.out _).mono ?_
        rintro e w7 ⟨rfl, hb7⟩
        have S7 := Lib.hid (S6.out.next hb7)
        have y2 := (hb7.cell (p := ⟨by1, oy1 + Q, none⟩) hb9).trans HYQ6.out
        have hb10 := Nat.lt_of_lt_of_le hby1 S7.out.b.size
        clear hb7 f0 f1 f2 f3 fl x0 x1 x2 x3 xl y1
        go_wp2_with fail
        go_ret2
        exact ⟨by rw [HR.out]; rfl, S7.out.b⟩
       ·have d4 : decide (o < r) = false := decide_eq_false c4
        have HHF := Lib.hid (show Dd.hasP f s o y x = false by rw [HH2.out, decide_eq_false c4, Bool.and_false])
        clear c3 c4
        go_wp2_with fail
        refine (HP1.out _).mono ?_
        rintro e w6 ⟨rfl, hb6⟩
        have S6 := Lib.hid (S5.out.next hb6)
        have K6 := Lib.hid (K5.out.below hb6 xl)
        have y1 := (hb6.cell (p := ⟨by1, oy1 + P, none⟩) (Nat.lt_of_lt_of_le hby1 S5.out.b.size)).trans HYP.out
        have HYQ6 := Lib.hid ((hb6.cell (p := ⟨by1, oy1 + Q, none⟩) (Nat.lt_of_lt_of_le hby1 S5.out.b.size)).trans HYQ.out)
        have hb9 := Nat.lt_of_lt_of_le hby1 S6.out.b.size
        clear hb6 f0 f1 f2 f3 fl x0 x1 x2 x3 xl
        obtain ⟨f0, f1, f2, f3, fl⟩ := S6.out.cells
        have x0 := (K6.out.cell 0).trans rfl
        have x1 := (K6.out.cell 1).trans rfl
        have x2 := (K6.out.cell 2).trans rfl
        have x3 := (K6.out.cell 3).trans rfl
        have xl := K6.out.lt
        go_wp2_with fail
        refine (HP2.out _).mono ?_
        rintro e w7 ⟨rfl, hb7⟩
        have S7 := Lib.hid (S6.out.next hb7)
        have y2 := (hb7.cell (p := ⟨by1, oy1 + Q, none⟩) hb9).trans HYQ6.out
        have hb10 := Nat.lt_of_lt_of_le hby1 S7.out.b.size
        clear hb7 f0 f1 f2 f3 fl x0 x1 x2 x3 xl y1
        go_wp2_with fail
        go_roundw
        case rel =>
         refine ⟨k + 1, by omega, by go_num, fun j h hj => ?_, S7.out⟩
         by_cases e : j = k
         ·subst e
          rw [HX.out]
          exact HHF.out
         ·exact HA.out j h (by omega)
        case measure => simp [intOf]; omega
      ·have d3 : decide (o ≥ u) = false := decide_eq_false (by omega)
       have HHF := Lib.hid (show Dd.hasP f s o y x = false by rw [HH2.out, decide_eq_false c3, Bool.false_and])
       clear c3
       go_wp2_with fail
       refine (HP1.out _).mono ?_
       rintro e w6 ⟨rfl, hb6⟩
       have S6 := Lib.hid (S5.out.next hb6)
       have K6 := Lib.hid (K5.out.below hb6 xl)
       have y1 := (hb6.cell (p := ⟨by1, oy1 + P, none⟩) (Nat.lt_of_lt_of_le hby1 S5.out.b.size)).trans HYP.out
       have HYQ6 := Lib.hid ((hb6.cell (p := ⟨by1, oy1 + Q, none⟩) (Nat.lt_of_lt_of_le hby1 S5.out.b.size)).trans HYQ.out)
       have hb9 := Nat.lt_of_lt_of_le hby1 S6.out.b.size
       clear hb6 f0 f1 f2 f3 fl x0 x1 x2 x3 xl
       obtain ⟨f0, f1, f2, f3, fl⟩ := S6.out.cells
       have x0 := (K6.out.cell 0).trans rfl
       have x1 := (K6.out.cell 1).trans rfl
       have x2 := (K6.out.cell 2).trans rfl
       have x3 := (K6.out.cell 3).trans rfl
       have xl := K6.out.lt
       go_wp2_with fail
       go_roundw
       case rel =>
        refine ⟨k + 1, by omega, by go_num, fun j h hj => ?_, S6.out⟩
        by_cases e : j = k
        ·subst e
         rw [HX.out]
         exact HHF.out
        ·exact HA.out j h (by omega)
       case measure => simp [intOf]; omega
     ·have d2 : decide (s < x.east) = false := decide_eq_false c2
      have HHF := Lib.hid (show Dd.hasP f s o y x = false by rw [HH0.out, decide_eq_false c2, Bool.and_false, Bool.false_and, Bool.false_and])
      clear c1 c2
      go_wp2_with fail
      go_roundw
      case rel =>
       refine ⟨k + 1, by omega, by go_num, fun j h hj => ?_, S5.out⟩
       by_cases e : j = k
       ·subst e
        rw [HX.out]
        exact HHF.out
       ·exact HA.out j h (by omega)
      case measure => simp [intOf]; omega
    ·have d1 : decide (s ≥ x.west) = false := decide_eq_false (by omega)
     have HHF := Lib.hid (show Dd.hasP f s o y x = false by rw [HH0.out, decide_eq_false c1, Bool.false_and, Bool.false_and, Bool.false_and])
     clear c1
     go_wp2_with fail
     go_roundw
     case rel =>
      refine ⟨k + 1, by omega, by go_num, fun j h hj => ?_, S5.out⟩
      by_cases e : j = k
      ·subst e
       rw [HX.out]
       exact HHF.out
      ·exact HA.out j h (by omega)
     case measure => simp [intOf]; omega
   ·have HR := Lib.hid (show R = (0, 5) by
     rw [HD.out, if_pos]
     rw [Dd.idxP_no (fun j h => HA.out j h (by omega))]
     decide)
    obtain rfl : k = f.pa.length := by omega
    go_wp2_with fail
    go_ret2
    exact ⟨by rw [HR.out]; rfl, S3.out.b⟩
 ·have HR := Lib.hid (HD.out.trans (if_pos h0))
  have hne : (E != 0) = true := by simp [h0]
  go_enter Tryz.func18, Tryz.ntmps18
  go_wp2_with fail
  refine (B0.out _ S0.out).mono ?_
  rintro e w1 ⟨rfl, hb⟩
  have S1 := Lib.hid (S0.out.next hb)
  clear hb
  go_wp2_with fail
  go_ret2
  exact ⟨by rw [HR.out]; rfl, S1.out.b⟩
end Go.Proofs.YtccikcpcfdjobaaGreatDoor
