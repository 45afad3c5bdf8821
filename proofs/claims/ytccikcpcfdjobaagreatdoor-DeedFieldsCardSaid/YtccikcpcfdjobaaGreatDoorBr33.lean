/-
  What the claims of layer deed need of the texts DVst, DQdg, DQpf.
-/
import Derived.Laws.BytesArg
import Derived.Deep.RegionHeld3
import Derived.BigQuiet
import Derived.Test.YtccikcpcfdjobaaGreatDoorBr06
import Derived.Test.YtccikcpcfdjobaaGreatDoorBr28
import Derived.Test.YtccikcpcfdjobaaGreatDoorBr21
import Derived.Test.YtccikcpcfdjobaaGreatDoorBz
set_option linter.unusedVariables false
set_option linter.unusedSimpArgs false
set_option maxHeartbeats 8000000
set_option maxRecDepth 100000
namespace Go.Proofs.YtccikcpcfdjobaaGreatDoor
section
open Go.RowKit
structure FRw (w : World) (B : Nat) (v : Fv) (f : Dd.Fd) : Prop where
 st : Rd w B 2 v.a1 f.st.length (scells f.st)
 li : Rd w B 1 v.a2 f.li.length (wcells f.li)
 pa : Rd w B 4 v.a3 f.pa.length (pcells f.pa)
 va : Rd w B 2 v.a4 f.va.length (vcells f.va)
 k1 : f.st.length ≤ v.c1
 k2 : f.li.length ≤ v.c2
 k3 : f.pa.length ≤ v.c3
 l1 : f.st.length ≤ 9223372036854775807
 l2 : f.li.length ≤ 9223372036854775807
 l3 : f.pa.length ≤ 9223372036854775807
 l4 : f.va.length ≤ 9223372036854775807
 n1 : ∀ s ∈ f.st, s.1.length ≤ 9223372036854775807
 n2 : ∀ s ∈ f.li, s.length ≤ 9223372036854775807
 n3 : ∀ p ∈ f.pa, p.name.length ≤ 9223372036854775807
theorem FRw.below {w w' : World} {B C : Nat} {v : Fv} {f : Dd.Fd} (h : FRw w B v f) (hb : Below C w w') (hC : B ≤ C) : FRw w' B v f :=
 ⟨h.st.below hb hC, h.li.below hb hC, h.pa.below hb hC, h.va.below hb hC, h.k1, h.k2, h.k3, h.l1, h.l2, h.l3, h.l4, h.n1, h.n2, h.n3⟩
def Dd.longN (s : Cs.Bs) : Bool := decide (100 < s.length)
def Dd.bigF (f : Dd.Fd) : Bool := decide (20 < f.st.length) || (decide (20 < f.li.length) || (decide (60 < f.pa.length) || decide (60 < f.va.length)))
def Dd.vastF (f : Dd.Fd) : Bool := Dd.bigF f || ((f.st.any fun s => Dd.longN s.1) || ((f.li.any Dd.longN) || (f.pa.any fun p => Dd.longN p.name)))
theorem Dd.longN_no {s : Cs.Bs} (h : Dd.longN s = false) : s.length ≤ 100 := by simpa [Dd.longN] using h
theorem FRw.small {w : World} {B : Nat} {v : Fv} {f : Dd.Fd} (h : FRw w B v f) (hv : Dd.vastF f = false) : FRd w B v f := by
 unfold Dd.vastF Dd.bigF at hv
 simp only [Bool.or_eq_false_iff, decide_eq_false_iff_not, List.any_eq_false] at hv
 obtain ⟨⟨a1, a2, a3, a4⟩, b1, b2, b3⟩ := hv
 exact ⟨h.st, h.li, h.pa, h.va, h.k1, h.k2, h.k3, by omega, by omega, by omega, by omega,
  fun s hs => Nat.le_trans (Dd.longN_no (by simpa using b1 s hs)) (by decide), fun s hs => Nat.le_trans (Dd.longN_no (by simpa using b2 s hs)) (by decide), fun s hs => Nat.le_trans (Dd.longN_no (by simpa using b3 s hs)) (by decide)⟩
theorem vast_any (v : Fv) (f : Dd.Fd) (w : World) (hF : FRw w w.heap.size v f) :
  Calls Tryz.prog 7 #[fval v f] w fun e w' => e = .returned (.bool (Dd.vastF f)) ∧ Below w.heap.size w w' := by
 have hrf : Dd.vastF f = (Dd.bigF f || ((f.st.any fun s => Dd.longN s.1) || ((f.li.any Dd.longN) || (f.pa.any fun p => Dd.longN p.name)))) := rfl
 have hbf : Dd.bigF f = (decide (20 < f.st.length) || (decide (20 < f.li.length) || (decide (60 < f.pa.length) || decide (60 < f.va.length)))) := rfl
 have hl1 := hF.l1
 have hl2 := hF.l2
 have hl3 := hF.l3
 have hl4 := hF.l4
 have HF := jQ hF
 have hfv : fval v f = .agg #[.slice v.a1 f.st.length v.c1, .slice v.a2 f.li.length v.c2, .slice v.a3 f.pa.length v.c3, .slice v.a4 f.va.length v.c4] := rfl
 rw [hfv]
 clear hF hfv
 obtain ⟨R, hR⟩ : ∃ R, Dd.vastF f = R := ⟨_, rfl⟩
 rw [hR] at hrf ⊢
 clear hR
 by_cases a1 : 20 < f.st.length
 ·have hr : R = true := by rw [hrf, hbf, decide_eq_true a1]; rfl
  have HR := jQ hr
  have d1 : decide ((f.st.length : Int) > 20) = true := decide_eq_true (by omega)
  clear hr hrf hbf
  go_enter Tryz.func7, Tryz.ntmps7
  go_wp2_with fail
  go_ret
  exact ⟨ret_bool HR.o.symm, (Below.refl _ _).alloc (Nat.le_refl _) _⟩
 by_cases a2 : 20 < f.li.length
 ·have hr : R = true := by rw [hrf, hbf, decide_eq_true a2]; simp
  have HR := jQ hr
  have d1 : decide ((f.st.length : Int) > 20) = false := decide_eq_false (by omega)
  have d2 : decide ((f.li.length : Int) > 20) = true := decide_eq_true (by omega)
  clear hr hrf hbf
  go_enter Tryz.func7, Tryz.ntmps7
  go_wp2_with fail
  go_ret
  exact ⟨ret_bool HR.o.symm, (Below.refl _ _).alloc (Nat.le_refl _) _⟩
 by_cases a3 : 60 < f.pa.length
 ·have hr : R = true := by rw [hrf, hbf, decide_eq_true a3]; simp
  have HR := jQ hr
  have d1 : decide ((f.st.length : Int) > 20) = false := decide_eq_false (by omega)
  have d2 : decide ((f.li.length : Int) > 20) = false := decide_eq_false (by omega)
  have d3 : decide ((f.pa.length : Int) > 60) = true := decide_eq_true (by omega)
  clear hr hrf hbf
  go_enter Tryz.func7, Tryz.ntmps7
  go_wp2_with fail
  go_ret
  exact ⟨ret_bool HR.o.symm, (Below.refl _ _).alloc (Nat.le_refl _) _⟩
 by_cases a4 : 60 < f.va.length
 ·have hr : R = true := by rw [hrf, hbf, decide_eq_true a4]; simp
  have HR := jQ hr
  have d1 : decide ((f.st.length : Int) > 20) = false := decide_eq_false (by omega)
  have d2 : decide ((f.li.length : Int) > 20) = false := decide_eq_false (by omega)
  have d3 : decide ((f.pa.length : Int) > 60) = false := decide_eq_false (by omega)
  have d4 : decide ((f.va.length : Int) > 60) = true := decide_eq_true (by omega)
  clear hr hrf hbf
  go_enter Tryz.func7, Tryz.ntmps7
  go_wp2_with fail
  go_ret
  exact ⟨ret_bool HR.o.symm, (Below.refl _ _).alloc (Nat.le_refl _) _⟩
 rw [hbf, decide_eq_false a1, decide_eq_false a2, decide_eq_false a3, decide_eq_false a4, Bool.false_or, Bool.false_or, Bool.false_or, Bool.false_or] at hrf
 have HR := jQ hrf
 have d1 : decide ((f.st.length : Int) > 20) = false := decide_eq_false (by omega)
 have d2 : decide ((f.li.length : Int) > 20) = false := decide_eq_false (by omega)
 have d3 : decide ((f.pa.length : Int) > 60) = false := decide_eq_false (by omega)
 have d4 : decide ((f.va.length : Int) > 60) = false := decide_eq_false (by omega)
 clear hrf hbf
 go_enter Tryz.func7, Tryz.ntmps7
 go_wp2_with fail
 have HB := jQ ((Below.refl w.heap.size w).alloc (Nat.le_refl _) (.cells #[.slice v.a1 f.st.length v.c1, .slice v.a2 f.li.length v.c2, .slice v.a3 f.pa.length v.c3, .slice v.a4 f.va.length v.c4] 27))
 have k0 := Bk.new w 27 #[.slice v.a1 f.st.length v.c1, .slice v.a2 f.li.length v.c2, .slice v.a3 f.pa.length v.c3, .slice v.a4 f.va.length v.c4]
 have f0 := (k0.cell 0).trans rfl
 have f1 := (k0.cell 1).trans rfl
 have f2 := (k0.cell 2).trans rfl
 have kl := k0.lt
 obtain ⟨W, hW⟩ : ∃ W, w.alloc (.cells #[.slice v.a1 f.st.length v.c1, .slice v.a2 f.li.length v.c2, .slice v.a3 f.pa.length v.c3, .slice v.a4 f.va.length v.c4] 27) = W := ⟨_, rfl⟩
 rw [hW] at HB f0 f1 f2 kl ⊢
 clear hW k0
 go_loop [3] (fun I => ∃ k : Nat, k ≤ f.st.length ∧ I = .int .i64 k ∧ ∀ j (h : j < f.st.length), j < k → Dd.longN f.st[j].1 = false) (fun I => f.st.length - (intOf I).toNat)
 case atStart => exact ⟨0, Nat.zero_le _, rfl, fun j h hj => absurd hj (by omega)⟩
 case round =>
  obtain ⟨k, hk, rfl, ha⟩ := hrel
  have HA := jQ ha
  clear ha
  by_cases hlt : k < f.st.length
  ·obtain ⟨b, off, ha1, hb, e0, e1⟩ := (HF.o.st.below HB.o (Nat.le_refl _)).station hlt
   have hb2 : b < W.heap.size := Nat.lt_of_lt_of_le hb HB.o.size
   have hnl := HF.o.n1 _ (List.getElem_mem hlt)
   obtain ⟨x, hx⟩ : ∃ x, f.st[k] = x := ⟨_, rfl⟩
   rw [hx] at e0 e1 hnl
   have HX := jQ hx
   by_cases hn : 100 < x.1.length
   ·have hno : R = true := by
     rw [HR.o]
     have : (f.st.any fun s => Dd.longN s.1) = true := List.any_eq_true.2 ⟨x, by rw [← HX.o]; exact List.getElem_mem hlt, decide_eq_true hn⟩
     rw [this]
     rfl
    have HNO := jQ hno
    have d5 : decide ((x.1.length : Int) > 100) = true := decide_eq_true (by omega)
    clear hno hx
    rw [ha1]
    go_wp2_with fail
    go_ret
    exact ⟨ret_bool HNO.o.symm, HB.o⟩
   ·have d5 : decide ((x.1.length : Int) > 100) = false := decide_eq_false (by omega)
    have HD := jQ (show Dd.longN x.1 = false from decide_eq_false hn)
    clear hx
    rw [ha1]
    go_wp2_with fail
    go_round
    case rel =>
     refine ⟨k + 1, by omega, by go_num, fun j h hj => ?_⟩
     by_cases e : j = k
     ·subst e
      rw [HX.o]
      exact HD.o
     ·exact HA.o j h (by omega)
    case measure => simp [intOf]; omega
  ·obtain rfl : k = f.st.length := by omega
   have hst : (f.st.any fun s => Dd.longN s.1) = false := by
    rw [List.any_eq_false]
    intro x hx
    obtain ⟨i, hi, rfl⟩ := List.getElem_of_mem hx
    simpa using HA.o i hi hi
   have hrf := HR.o
   rw [hst, Bool.false_or] at hrf
   have HR2 := jQ hrf
   clear hrf hst HR HA
   go_wp2_with fail
   go_loop [4] (fun I => ∃ k : Nat, k ≤ f.li.length ∧ I = .int .i64 k ∧ ∀ j (h : j < f.li.length), j < k → Dd.longN f.li[j] = false) (fun I => f.li.length - (intOf I).toNat)
   case atStart => exact ⟨0, Nat.zero_le _, rfl, fun j h hj => absurd hj (by omega)⟩
   case round =>
    obtain ⟨k, hk, rfl, ha⟩ := hrel
    have HA := jQ ha
    clear ha
    by_cases hlt : k < f.li.length
    ·obtain ⟨b, off, ha1, hb, e0⟩ := (HF.o.li.below HB.o (Nat.le_refl _)).text hlt
     have hb2 : b < W.heap.size := Nat.lt_of_lt_of_le hb HB.o.size
     have hnl := HF.o.n2 _ (List.getElem_mem hlt)
     obtain ⟨x, hx⟩ : ∃ x, f.li[k] = x := ⟨_, rfl⟩
     rw [hx] at e0 hnl
     have HX := jQ hx
     by_cases hn : 100 < x.length
     ·have hno : R = true := by
       rw [HR2.o]
       have : (f.li.any Dd.longN) = true := List.any_eq_true.2 ⟨x, by rw [← HX.o]; exact List.getElem_mem hlt, decide_eq_true hn⟩
       rw [this]
       rfl
      have HNO := jQ hno
      have d5 : decide ((x.length : Int) > 100) = true := decide_eq_true (by omega)
      clear hno hx
      rw [ha1]
      go_wp2_with fail
      go_ret
      exact ⟨ret_bool HNO.o.symm, HB.o⟩
     ·have d5 : decide ((x.length : Int) > 100) = false := decide_eq_false (by omega)
      have HD := jQ (show Dd.longN x = false from decide_eq_false hn)
      clear hx
      rw [ha1]
      go_wp2_with fail
      go_round
      case rel =>
       refine ⟨k + 1, by omega, by go_num, fun j h hj => ?_⟩
       by_cases e : j = k
       ·subst e
        rw [HX.o]
        exact HD.o
       ·exact HA.o j h (by omega)
      case measure => simp [intOf]; omega
    ·obtain rfl : k = f.li.length := by omega
     have hst : (f.li.any Dd.longN) = false := by
      rw [List.any_eq_false]
      intro x hx
      obtain ⟨i, hi, rfl⟩ := List.getElem_of_mem hx
      simpa using HA.o i hi hi
     have hrf := HR2.o
     rw [hst, Bool.false_or] at hrf
     have HR3 := jQ hrf
     clear hrf hst HR2 HA
     go_wp2_with fail
     go_loop [5] (fun I => ∃ k : Nat, k ≤ f.pa.length ∧ I = .int .i64 k ∧ ∀ j (h : j < f.pa.length), j < k → Dd.longN f.pa[j].name = false) (fun I => f.pa.length - (intOf I).toNat)
     case atStart => exact ⟨0, Nat.zero_le _, rfl, fun j h hj => absurd hj (by omega)⟩
     case round =>
      obtain ⟨k, hk, rfl, ha⟩ := hrel
      have HA := jQ ha
      clear ha
      by_cases hlt : k < f.pa.length
      ·obtain ⟨b, off, ha1, hb, e0, e1, e2, e3⟩ := (HF.o.pa.below HB.o (Nat.le_refl _)).parcel hlt
       have hb2 : b < W.heap.size := Nat.lt_of_lt_of_le hb HB.o.size
       have hnl := HF.o.n3 _ (List.getElem_mem hlt)
       obtain ⟨x, hx⟩ : ∃ x, f.pa[k] = x := ⟨_, rfl⟩
       rw [hx] at e0 e1 e2 e3 hnl
       have HX := jQ hx
       by_cases hn : 100 < x.name.length
       ·have hno : R = true := by
         rw [HR3.o]
         exact List.any_eq_true.2 ⟨x, by rw [← HX.o]; exact List.getElem_mem hlt, decide_eq_true hn⟩
        have HNO := jQ hno
        have d5 : decide ((x.name.length : Int) > 100) = true := decide_eq_true (by omega)
        clear hno hx
        rw [ha1]
        go_wp2_with fail
        go_ret
        exact ⟨ret_bool HNO.o.symm, HB.o⟩
       ·have d5 : decide ((x.name.length : Int) > 100) = false := decide_eq_false (by omega)
        have HD := jQ (show Dd.longN x.name = false from decide_eq_false hn)
        clear hx
        rw [ha1]
        go_wp2_with fail
        go_round
        case rel =>
         refine ⟨k + 1, by omega, by go_num, fun j h hj => ?_⟩
         by_cases e : j = k
         ·subst e
          rw [HX.o]
          exact HD.o
         ·exact HA.o j h (by omega)
        case measure => simp [intOf]; omega
      ·obtain rfl : k = f.pa.length := by omega
       have hst : R = false := by
        rw [HR3.o, List.any_eq_false]
        intro x hx
        obtain ⟨i, hi, rfl⟩ := List.getElem_of_mem hx
        simpa using HA.o i hi hi
       have HS := jQ hst
       clear hst HR3 HA
       go_wp2_with fail
       go_ret
       exact ⟨ret_bool HS.o.symm, HB.o⟩
end

section
open Go.RowKit Go.Lib
theorem qdigit_at (n c : Int) (hc : c = 48 + n) (h0 : 0 ≤ n) (h1 : n < 10) (w : World) :
  (convert 169 9 (.slice (some ⟨w.heap.size, 0, none⟩) 1 1)).run Tryz.prog (w.alloc (.cells #[.int .u8 c] 5)) = .ok (sv (Lib.decDigits n.toNat)) (w.alloc (.cells #[.int .u8 c] 5)) := by
 have g := run_convert_bytes_arg (P := Tryz.prog) (w.alloc (.cells #[.int .u8 c] 5)) 169 5 Tryz.underlying169 Tryz.underlying5 w.heap.size 0 1 1 [c] rfl (fun i hi => by
  obtain rfl : i = 0 := by omega
  exact (Bk.new w 5 #[.int .u8 c]).cell 0) 9 Tryz.underlying9
 rw [g, Lib.decDigits, dif_pos (by omega)]
 have : strOfNums [c] = ⟨#[UInt8.ofNat (48 + n.toNat)]⟩ := by
  rw [strOfNums]
  simp only [List.map_cons, List.map_nil]
  rw [show c.toNat = 48 + n.toNat by omega]
 rw [this]
 rfl
theorem qdigit_low (n : Int) (h0 : 0 ≤ n) (h1 : n < 10) (w : World) :
  Calls Tryz.prog 93 #[.int .i64 n] w fun e w' => e = .returned (sv (Lib.decDigits n.toNat)) ∧ Below w.heap.size w w' := by
 have hb := fun c : Int => (Below.refl w.heap.size w).alloc (Nat.le_refl _) (.cells #[.int .u8 c] 5)
 have h : n = 0 ∨ n = 1 ∨ n = 2 ∨ n = 3 ∨ n = 4 ∨ n = 5 ∨ n = 6 ∨ n = 7 ∨ n = 8 ∨ n = 9 := by omega
 have HB := jQ hb
 clear hb
 rcases h with rfl | rfl | rfl | rfl | rfl | rfl | rfl | rfl | rfl | rfl
 ·have g := qdigit_at 0 48 rfl (by decide) (by decide) w
  go_enter Tryz.func93, Tryz.ntmps93
  go_wp2_with fail
  go_ret
  exact ⟨rfl, HB.o _⟩
 ·have g := qdigit_at 1 49 rfl (by decide) (by decide) w
  go_enter Tryz.func93, Tryz.ntmps93
  go_wp2_with fail
  go_ret
  exact ⟨rfl, HB.o _⟩
 ·have g := qdigit_at 2 50 rfl (by decide) (by decide) w
  go_enter Tryz.func93, Tryz.ntmps93
  go_wp2_with fail
  go_ret
  exact ⟨rfl, HB.o _⟩
 ·have g := qdigit_at 3 51 rfl (by decide) (by decide) w
  go_enter Tryz.func93, Tryz.ntmps93
  go_wp2_with fail
  go_ret
  exact ⟨rfl, HB.o _⟩
 ·have g := qdigit_at 4 52 rfl (by decide) (by decide) w
  go_enter Tryz.func93, Tryz.ntmps93
  go_wp2_with fail
  go_ret
  exact ⟨rfl, HB.o _⟩
 ·have g := qdigit_at 5 53 rfl (by decide) (by decide) w
  go_enter Tryz.func93, Tryz.ntmps93
  go_wp2_with fail
  go_ret
  exact ⟨rfl, HB.o _⟩
 ·have g := qdigit_at 6 54 rfl (by decide) (by decide) w
  go_enter Tryz.func93, Tryz.ntmps93
  go_wp2_with fail
  go_ret
  exact ⟨rfl, HB.o _⟩
 ·have g := qdigit_at 7 55 rfl (by decide) (by decide) w
  go_enter Tryz.func93, Tryz.ntmps93
  go_wp2_with fail
  go_ret
  exact ⟨rfl, HB.o _⟩
 ·have g := qdigit_at 8 56 rfl (by decide) (by decide) w
  go_enter Tryz.func93, Tryz.ntmps93
  go_wp2_with fail
  go_ret
  exact ⟨rfl, HB.o _⟩
 ·have g := qdigit_at 9 57 rfl (by decide) (by decide) w
  go_enter Tryz.func93, Tryz.ntmps93
  go_wp2_with fail
  go_ret
  exact ⟨rfl, HB.o _⟩
theorem qdig_len (n : Nat) (hn : n ≤ 9223372036854775807) : (Lib.decDigits n).length ≤ 100 := by
 have := itoa_len (q := (n : Int)) (by omega) (by omega)
 rwa [Cs.itoa_nn (by omega), Int.toNat_natCast] at this
theorem qdig_step {n : Nat} (h : ¬ n < 10) : Lib.decDigits n = Lib.decDigits (n / 10) ++ Lib.decDigits (n % 10) := by
 rw [Lib.decDigits, dif_neg h, Lib.decDigits.eq_def (n % 10), dif_pos (by omega)]
theorem qdigits_nat (n : Nat) (hn : n ≤ 9223372036854775807) (w : World) :
    Calls Tryz.prog 93 #[.int .i64 (n : Int)] w fun e w' => e = .returned (sv (Lib.decDigits n)) ∧ Below w.heap.size w w' := by
  induction n using Nat.strongRecOn generalizing w with
  | _ n ih =>
    by_cases h : n < 10
    · exact qdigit_low (n : Int) (by omega) (by omega) w
    · have b1 := ih (n / 10) (by omega) (by omega)
      have b2 := fun W => qdigit_low ((n : Int) % 10) (by omega) (by omega) W
      have hd : Lib.decDigits n = Lib.decDigits (n / 10) ++ Lib.decDigits ((n : Int) % 10).toNat := by
        rw [Lib.decDigits, dif_neg h, Lib.decDigits.eq_def ((n : Int) % 10).toNat, dif_pos (by omega)]
        congr 3
      have hlt : decide ((n : Int) < 10) = false := decide_eq_false (by omega)
      have hl9 : decide ((n : Int) < -9) = false := decide_eq_false (by omega)
      have hl0 : decide ((n : Int) < 0) = false := decide_eq_false (by omega)
      rw [hd]
      obtain ⟨x, hx⟩ : ∃ x, Lib.decDigits (n / 10) = x := ⟨_, rfl⟩
      obtain ⟨y, hy⟩ : ∃ y, Lib.decDigits ((n : Int) % 10).toNat = y := ⟨_, rfl⟩
      have l1 := qdig_len (n / 10) (by omega)
      have l2 := qdig_len ((n : Int) % 10).toNat (by omega)
      rw [hx] at b1 l1
      rw [hy] at b2 l2
      rw [hx, hy]
      have c1 := fun w => cat2 (P := Tryz.prog) x y (by omega) (by omega) w
      obtain ⟨z, hz⟩ : ∃ z, x ++ y = z := ⟨_, rfl⟩
      rw [hz] at c1 ⊢
      have B1 := jQ b1
      have B2 := jQ b2
      clear b1 b2 hx hy hd ih hz l1 l2
      go_enter Tryz.func93, Tryz.ntmps93
      go_wp2_with fail
      refine (B1.o _).mono ?_
      rintro e w1 ⟨rfl, hb⟩
      have HB := jQ hb
      clear hb
      simp only [sv_def]
      go_wp2_with fail
      refine (B2.o _).mono ?_
      rintro e w2 ⟨rfl, hb⟩
      have HB2 := jQ (HB.o.trans (hb.mono HB.o.size))
      clear hb
      simp only [sv_def]
      go_wp2_with fail
      go_ret
      exact ⟨rfl, HB2.o⟩
theorem qdigits_neg (m : Nat) (h0 : 0 < m) (hn : m ≤ 9223372036854775807) (w : World) :
    Calls Tryz.prog 93 #[.int .i64 (-(m : Int))] w fun e w' => e = .returned (sv (45 :: Lib.decDigits m)) ∧ Below w.heap.size w w' := by
  induction m using Nat.strongRecOn generalizing w with
  | _ m ih =>
    have hwn : IntKind.i64.wrap (-(-(m : Int))) = (m : Int) := by rw [Int.neg_neg]; exact IntWalk.i64_in _ (by omega)
    by_cases h : m < 10
    · have b2 := fun W => qdigits_nat m hn W
      have l2 := qdig_len m hn
      obtain ⟨y, hy⟩ : ∃ y, Lib.decDigits m = y := ⟨_, rfl⟩
      rw [hy] at b2 l2 ⊢
      have c1 := fun w => cat2 (P := Tryz.prog) [45] y (by decide) (by omega) w
      obtain ⟨z, hz⟩ : ∃ z, [45] ++ y = z := ⟨_, rfl⟩
      rw [show (45 : UInt8) :: y = [45] ++ y from rfl, hz]
      rw [hz] at c1
      have hl9 : decide (-(m : Int) < -9) = false := decide_eq_false (by omega)
      have hl0 : decide (-(m : Int) < 0) = true := decide_eq_true (by omega)
      have B2 := jQ b2
      obtain ⟨n, hnn⟩ : ∃ n, -(m : Int) = n := ⟨_, rfl⟩
      rw [hnn] at hl9 hl0 hwn ⊢
      clear b2 hy ih hz l2 h0 hn h hnn
      go_enter Tryz.func93, Tryz.ntmps93
      go_wp2_with fail
      refine (B2.o _).mono ?_
      rintro e w2 ⟨rfl, hb⟩
      have HB2 := jQ hb
      clear hb
      simp only [sv_def]
      go_wp2_with fail
      go_ret
      exact ⟨rfl, HB2.o⟩
    · have b1 := ih (m / 10) (by omega) (by omega) (by omega)
      have b2 := fun W => qdigits_nat (m % 10) (by omega) W
      have hd : (45 : UInt8) :: Lib.decDigits m = (45 :: Lib.decDigits (m / 10)) ++ Lib.decDigits (m % 10) := by rw [qdig_step h]; rfl
      rw [hd]
      have l1 := qdig_len (m / 10) (by omega)
      have l2 := qdig_len (m % 10) (by omega)
      obtain ⟨x, hx⟩ : ∃ x, (45 : UInt8) :: Lib.decDigits (m / 10) = x := ⟨_, rfl⟩
      obtain ⟨y, hy⟩ : ∃ y, Lib.decDigits (m % 10) = y := ⟨_, rfl⟩
      have l3 : x.length ≤ 101 := by rw [← hx, List.length_cons]; omega
      rw [hx] at b1
      rw [hy] at b2 l2
      rw [hx, hy]
      have c1 := fun w => cat2 (P := Tryz.prog) x y (by omega) (by omega) w
      obtain ⟨z, hz⟩ : ∃ z, x ++ y = z := ⟨_, rfl⟩
      rw [hz] at c1 ⊢
      have hl9 : decide (-(m : Int) < -9) = true := decide_eq_true (by omega)
      have t1 : (-(m : Int)).tdiv 10 = -((m / 10 : Nat) : Int) := by rw [Int.neg_tdiv]; rfl
      have t2 : (-(m : Int)).tmod 10 = -((m % 10 : Nat) : Int) := by rw [Int.neg_tmod]; rfl
      have w1 : IntKind.i64.wrap (-((m / 10 : Nat) : Int)) = -((m / 10 : Nat) : Int) := IntWalk.i64_in _ (by omega)
      have w2 : IntKind.i64.wrap (-((m % 10 : Nat) : Int)) = -((m % 10 : Nat) : Int) := IntWalk.i64_in _ (by omega)
      have w3 : IntKind.i64.wrap (-(-((m % 10 : Nat) : Int))) = ((m % 10 : Nat) : Int) := by rw [Int.neg_neg]; exact IntWalk.i64_in _ (by omega)
      have B1 := jQ b1
      have B2 := jQ b2
      obtain ⟨n, hnn⟩ : ∃ n, -(m : Int) = n := ⟨_, rfl⟩
      obtain ⟨q, hqq⟩ : ∃ n, -((m / 10 : Nat) : Int) = n := ⟨_, rfl⟩
      obtain ⟨r, hrr⟩ : ∃ n, -((m % 10 : Nat) : Int) = n := ⟨_, rfl⟩
      obtain ⟨s, hss⟩ : ∃ n, ((m % 10 : Nat) : Int) = n := ⟨_, rfl⟩
      rw [hnn] at hl9 t1 t2 ⊢
      rw [hqq] at t1 w1 B1
      rw [hrr] at t2 w2 w3
      rw [hss] at w3 B2
      clear b1 b2 hx hy hd ih hz l1 l2 l3 h0 hn h hnn hqq hrr hss hwn
      go_enter Tryz.func93, Tryz.ntmps93
      go_wp2_with fail
      refine (B1.o _).mono ?_
      rintro e w1 ⟨rfl, hb⟩
      have HB := jQ hb
      clear hb
      simp only [sv_def]
      go_wp2_with fail
      refine (B2.o _).mono ?_
      rintro e w2 ⟨rfl, hb⟩
      have HB2 := jQ (HB.o.trans (hb.mono HB.o.size))
      clear hb
      simp only [sv_def]
      go_wp2_with fail
      go_ret
      exact ⟨rfl, HB2.o⟩
theorem qdigits_any (n : Int) (h0 : -9223372036854775807 ≤ n) (h1 : n ≤ 9223372036854775807) (w : World) :
  Calls Tryz.prog 93 #[.int .i64 n] w fun e w' => e = .returned (sv (Lib.itoa n)) ∧ Below w.heap.size w w' := by
 by_cases h : n < 0
 ·obtain ⟨m, rfl⟩ : ∃ m : Nat, n = -(m : Int) := ⟨(-n).toNat, by omega⟩
  have := qdigits_neg m (by omega) (by omega) w
  rwa [show Lib.itoa (-(m : Int)) = 45 :: Lib.decDigits m by unfold Lib.itoa; rw [if_pos h]; simp]
 ·obtain ⟨m, rfl⟩ : ∃ m : Nat, n = (m : Int) := ⟨n.toNat, by omega⟩
  have := qdigits_nat m (by omega) w
  rwa [show Lib.itoa (m : Int) = Lib.decDigits m by rw [Cs.itoa_nn (by omega), Int.toNat_natCast]]
end

section
open Go.RowKit
theorem srcF_snoc (l : List Dd.Bs) (x : Dd.Bs) : Dd.srcF (l ++ [x]) = Dd.srcF l ++ (x ++ [10]) := by simp [Dd.srcF]
theorem src_pre {f : Dd.Fd} (h : Dd.fieldE f = 0) (l r : List Dd.Bs) (e : l ++ r = Dd.fieldW f) : (Dd.srcF l).length ≤ 12852 := by
 obtain ⟨h1, h2⟩ := Dd.field_wlines h
 have h3 := Dd.src_le l 125 (fun x hx => (h1 x (by rw [← e]; exact List.mem_append_left _ hx)).2)
 have h4 : l.length ≤ 102 := by rw [← e, List.length_append] at h2; omega
 have := Nat.mul_le_mul_right 126 h4
 omega
theorem said2 (a b : Dd.Bs) : Dd.saidF [a, b] = a ++ [32] ++ b := by simp [Dd.saidF, Lib.join, List.intercalate]
theorem said3 (a b c : Dd.Bs) : Dd.saidF [a, b, c] = a ++ [32] ++ b ++ [32] ++ c := by simp [Dd.saidF, Lib.join, List.intercalate]
theorem said5 (a b c d e : Dd.Bs) : Dd.saidF [a, b, c, d, e] = a ++ [32] ++ b ++ [32] ++ c ++ [32] ++ d ++ [32] ++ e := by simp [Dd.saidF, Lib.join, List.intercalate]
set_option maxHeartbeats 16000000 in
theorem qPrintF_any (v : Fv) (f : Dd.Fd) (w : World) (hF : FRd w w.heap.size v f) :
  Calls Tryz.prog 38 #[fval v f] w fun e w' => e = .returned (sv (Dd.printF f)) ∧ Below w.heap.size w w' := by
 obtain ⟨a1, k1, a2, k2, a3, k3, a4, k4⟩ := v
 have hd : Dd.printF f = if Dd.fieldE f ≠ 0 then [] else Dd.srcF (Dd.fieldW f) := rfl
 have B0 := jQ (fun W (h : Fs w w.heap.size ⟨a1, k1, a2, k2, a3, k3, a4, k4⟩ f W) => qCheckField_any ⟨a1, k1, a2, k2, a3, k3, a4, k4⟩ f W h.rd)
 have S0 := jQ (Fs.new hF)
 simp only [fval_def] at B0 S0 ⊢
 obtain ⟨ef, hef⟩ : ∃ e, Dd.fieldE f = e := ⟨_, rfl⟩
 rw [hef] at B0 hd
 by_cases he : ef = 0
 ·subst he
  rw [if_neg (by simp)] at hd
  obtain ⟨nm1, nm2, nm3⟩ := Dd.field_names hef
  obtain ⟨nn1, nn4⟩ := Dd.field_nums hef
  obtain ⟨hs1, hs2, hs3, hs4, hs5, -, -, -, hrg, -⟩ := Dd.field_facts hef
  have hsp := src_pre hef
  have hva : f.va.length ≤ 40 := (Dd.vars_ok (Dd.field_facts hef).2.2.2.2.2.1).1
  simp only [Dd.rangeF, Bool.and_eq_true, List.all_eq_true] at hrg
  have HPO := jQ hrg.2
  have NM1 := jQ nm1
  have NM2 := jQ nm2
  have NM3 := jQ nm3
  have NN1 := jQ nn1
  have NN4 := jQ nn4
  have HSP := jQ hsp
  obtain ⟨L1, hL1⟩ : ∃ L, f.st.map (fun s => Dd.saidF [Dd.kStation, s.1, Lib.itoa s.2]) = L := ⟨_, rfl⟩
  obtain ⟨L2, hL2⟩ : ∃ L, f.li.map (fun n => Dd.saidF [Dd.kLimit, n]) = L := ⟨_, rfl⟩
  obtain ⟨L3, hL3⟩ : ∃ L, f.pa.map (fun p => Dd.saidF [Dd.kParcel, p.name, Dd.liAt f p.south, Dd.stAt f p.west, Dd.stAt f p.east]) = L := ⟨_, rfl⟩
  obtain ⟨L4, hL4⟩ : ∃ L, f.va.map (fun v => Dd.saidF [Dd.kVariation, Lib.itoa v.1, Lib.itoa v.2]) = L := ⟨_, rfl⟩
  have hW : Dd.fieldW f = L1 ++ L2 ++ L3 ++ L4 := by unfold Dd.fieldW; rw [hL1, hL2, hL3, hL4]
  have hl1 : L1.length = f.st.length := by rw [← hL1, List.length_map]
  have hl2 : L2.length = f.li.length := by rw [← hL2, List.length_map]
  have hl3 : L3.length = f.pa.length := by rw [← hL3, List.length_map]
  have hl4 : L4.length = f.va.length := by rw [← hL4, List.length_map]
  have HL1 := jQ hL1
  have HL2 := jQ hL2
  have HL3 := jQ hL3
  have HL4 := jQ hL4
  have HW := jQ hW
  have HD := jQ hd
  have HN1 := jQ hl1
  have HN2 := jQ hl2
  have HN3 := jQ hl3
  have HN4 := jQ hl4
  clear hF hd hef hrg nm1 nm2 nm3 nn1 nn4 hsp hL1 hL2 hL3 hL4 hW hl1 hl2 hl3 hl4 hs1
  obtain ⟨f0, f1, f2, f3, fl⟩ := S0.o.cells
  go_enter Tryz.func38, Tryz.ntmps38
  go_wp2_with fail
  refine (B0.o _ S0.o).mono ?_
  rintro e w1 ⟨rfl, hb⟩
  have S1 := jQ (S0.o.next hb)
  clear hb f0 f1 f2 f3 fl S0
  go_wp2_with fail
  go_loopw [3, 4] (fun S I wr => ∃ k : Nat, k ≤ f.st.length ∧ I = .int .i64 k ∧ S = .string ⟨(Dd.srcF (L1.take k)).toArray⟩ ∧ Fs w w.heap.size ⟨a1, k1, a2, k2, a3, k3, a4, k4⟩ f wr) (fun _ I _ => f.st.length - (intOf I).toNat)
  case atStart => exact ⟨0, Nat.zero_le _, rfl, rfl, S1.o⟩
  case round =>
   obtain ⟨k, hk, rfl, rfl, hpl⟩ := hrel
   have P0 := jQ hpl
   clear hpl
   obtain ⟨f0, f1, f2, f3, fl⟩ := P0.o.cells
   by_cases hlt : k < f.st.length
   ·obtain ⟨b, off, hA, hb, e0, e1⟩ := P0.o.r.st.station hlt
    dsimp only at hA
    subst hA
    have hki : (k : Int) < (f.st.length : Int) := by omega
    have nm := NM1.o _ (List.getElem_mem hlt)
    have nn := NN1.o _ (List.getElem_mem hlt)
    obtain ⟨x, hx⟩ : ∃ x, f.st[k] = x := ⟨_, rfl⟩
    have HX := jQ hx
    rw [hx] at e0 e1 nm nn
    have iD := Dd.itoa_le (n := x.2) (by omega) (by omega)
    have hg := fun W => qdigits_any x.2 (by omega) (by omega) W
    have hln := HSP.o (L1.take k) (L1.drop k ++ (L2 ++ (L3 ++ L4))) (by rw [HW.o]; simp only [List.append_assoc]; rw [← List.append_assoc (L1.take k), List.take_append_drop])
    have hsn : Dd.srcF (L1.take (k + 1)) = Dd.srcF (L1.take k) ++ (Dd.saidF [Dd.kStation, x.1, Lib.itoa x.2] ++ [10]) := by
     rw [← srcF_snoc, List.take_succ_eq_append_getElem (by rw [HN1.o]; exact hlt)]
     congr 3
     simp only [← HL1.o, List.getElem_map, hx]
    obtain ⟨s, hs⟩ : ∃ s, Dd.srcF (L1.take k) = s := ⟨_, rfl⟩
    rw [hs] at hsn hln ⊢
    obtain ⟨D, hD⟩ : ∃ D, Lib.itoa x.2 = D := ⟨_, rfl⟩
    rw [hD] at hsn
    rw [hD] at iD
    have c1 := fun w => cat2 (P := Tryz.prog) (s) [115, 116, 97, 116, 105, 111, 110, 32] (by omega) (by simp only [List.length_cons, List.length_nil]; omega) w
    have c2 := fun w => cat2 (P := Tryz.prog) (s ++ [115, 116, 97, 116, 105, 111, 110, 32]) x.1 (by simp only [List.length_append, List.length_cons, List.length_nil]; omega) (by omega) w
    have c3 := fun w => cat2 (P := Tryz.prog) (s ++ [115, 116, 97, 116, 105, 111, 110, 32] ++ x.1) [32] (by simp only [List.length_append, List.length_cons, List.length_nil]; omega) (by simp only [List.length_cons, List.length_nil]; omega) w
    have c4 := fun w => cat2 (P := Tryz.prog) (s ++ [115, 116, 97, 116, 105, 111, 110, 32] ++ x.1 ++ [32]) D (by simp only [List.length_append, List.length_cons, List.length_nil]; omega) (by omega) w
    have c5 := fun w => cat2 (P := Tryz.prog) (s ++ [115, 116, 97, 116, 105, 111, 110, 32] ++ x.1 ++ [32] ++ D) [10] (by simp only [List.length_append, List.length_cons, List.length_nil]; omega) (by simp only [List.length_cons, List.length_nil]; omega) w
    obtain ⟨z1, hz1⟩ : ∃ z, s ++ [115, 116, 97, 116, 105, 111, 110, 32] = z := ⟨_, rfl⟩
    rw [hz1] at c1 c2 c3 c4 c5
    obtain ⟨z2, hz2⟩ : ∃ z, z1 ++ x.1 = z := ⟨_, rfl⟩
    rw [hz2] at c2 c3 c4 c5
    obtain ⟨z3, hz3⟩ : ∃ z, z2 ++ [32] = z := ⟨_, rfl⟩
    rw [hz3] at c3 c4 c5
    obtain ⟨z4, hz4⟩ : ∃ z, z3 ++ D = z := ⟨_, rfl⟩
    rw [hz4] at c4 c5
    obtain ⟨z5, hz5⟩ : ∃ z, z4 ++ [10] = z := ⟨_, rfl⟩
    rw [hz5] at c5
    have HEND := jQ (show z5 = Dd.srcF (L1.take (k + 1)) by
     rw [hsn, said3, ← hz5, ← hz4, ← hz3, ← hz2, ← hz1]
     simp [Dd.kStation, Dd.kLimit, Dd.kParcel, Dd.kVariation])
    simp only [hD, sv_def] at hg
    have HG := jQ hg
    clear hg
    clear hs hsn hln hz1 hz2 hz3 hz4 hz5 hD iD
    clear hx nm nn
    go_upto_region 7 with fail
    clear f0 f1 f2 f3 fl e0 e1
    have sZ : Fs w w.heap.size ⟨(some ⟨b, off, none⟩), k1, a2, k2, a3, k3, a4, k4⟩ f wr.drew := P0.o.next (Below.refl _ _).drew
    have HC := jQ (fun U (hp : Fs w w.heap.size ⟨(some ⟨b, off, none⟩), k1, a2, k2, a3, k3, a4, k4⟩ f U) => (show U.cell? ⟨w.heap.size, 0, none⟩ = some (.slice (some ⟨b, off, none⟩) f.st.length k1) ∧ U.cell? ⟨b, off + k * 2, none⟩ = some (.string ⟨x.1.toArray⟩) ∧ U.cell? ⟨b, off + k * 2 + 1, none⟩ = some (.int .i64 x.2) from by
     obtain ⟨q0, -, -, -, -⟩ := hp.cells
     obtain ⟨_, _, eA, _, c0, c1⟩ := hp.r.st.station hlt
     cases eA
     rw [HX.o] at c0 c1
     exact ⟨q0, c0, c1⟩))
    obtain ⟨f0, e0, e1⟩ := HC.o _ P0.o
    go_region_held3 (fun U => U.cell? ⟨w.heap.size, 0, none⟩ = some (.slice (some ⟨b, off, none⟩) f.st.length k1) ∧ U.cell? ⟨b, off + k * 2, none⟩ = some (.string ⟨x.1.toArray⟩) ∧ U.cell? ⟨b, off + k * 2 + 1, none⟩ = some (.int .i64 x.2))
     (first
      | ((try dsimp only); first | (with_reducible exact HC.o _ sI0) | (with_reducible exact HC.o _ sZ))
      | go_keep)
     (first | (go_at_call 93; (refine (HG.o _).mono ?_; rintro e v0 ⟨rfl, hb0⟩; have sI0 := sZ.next hb0)))
    all_goals
     have SX := jQ sI0
     clear hb0 sZ sI0
     go_wp2_with fail
     refine ⟨⟨k + 1, by omega, by go_num, by rw [← HEND.o], SX.o⟩, ?_⟩
     show f.st.length - ((k : Int) + 1).toNat < f.st.length - ((k : Int)).toNat
     omega
   ·obtain rfl : k = f.st.length := by omega
    rw [show L1.take f.st.length = L1 by rw [← HN1.o, List.take_length]]
    go_wp2_with fail
    have S1 := P0
    clear P0 f0 f1 f2 f3 fl
    go_loopw [3, 5] (fun S I wr => ∃ k : Nat, k ≤ f.li.length ∧ I = .int .i64 k ∧ S = .string ⟨(Dd.srcF (L1 ++ L2.take k)).toArray⟩ ∧ Fs w w.heap.size ⟨a1, k1, a2, k2, a3, k3, a4, k4⟩ f wr) (fun _ I _ => f.li.length - (intOf I).toNat)
    case atStart => exact ⟨0, Nat.zero_le _, rfl, by simp, S1.o⟩
    case round =>
     obtain ⟨k, hk, rfl, rfl, hpl⟩ := hrel
     have P0 := jQ hpl
     clear hpl
     obtain ⟨f0, f1, f2, f3, fl⟩ := P0.o.cells
     by_cases hlt : k < f.li.length
     ·obtain ⟨b, off, hA, hb, e0⟩ := P0.o.r.li.text hlt
      dsimp only at hA
      subst hA
      have hki : (k : Int) < (f.li.length : Int) := by omega
      have nm := NM2.o _ (List.getElem_mem hlt)
      obtain ⟨x, hx⟩ : ∃ x, f.li[k] = x := ⟨_, rfl⟩
      rw [hx] at e0 nm
      have hln := HSP.o (L1 ++ L2.take k) (L2.drop k ++ (L3 ++ L4)) (by rw [HW.o]; simp only [List.append_assoc]; rw [← List.append_assoc (L2.take k), List.take_append_drop])
      have hsn : Dd.srcF (L1 ++ L2.take (k + 1)) = Dd.srcF (L1 ++ L2.take k) ++ (Dd.saidF [Dd.kLimit, x] ++ [10]) := by
       rw [← srcF_snoc, List.take_succ_eq_append_getElem (by rw [HN2.o]; exact hlt), ← List.append_assoc]
       congr 3
       simp only [← HL2.o, List.getElem_map, hx]
      obtain ⟨s, hs⟩ : ∃ s, Dd.srcF (L1 ++ L2.take k) = s := ⟨_, rfl⟩
      rw [hs] at hsn hln ⊢
      have c1 := fun w => cat2 (P := Tryz.prog) (s) [108, 105, 109, 105, 116, 32] (by omega) (by simp only [List.length_cons, List.length_nil]; omega) w
      have c2 := fun w => cat2 (P := Tryz.prog) (s ++ [108, 105, 109, 105, 116, 32]) x (by simp only [List.length_append, List.length_cons, List.length_nil]; omega) (by omega) w
      have c3 := fun w => cat2 (P := Tryz.prog) (s ++ [108, 105, 109, 105, 116, 32] ++ x) [10] (by simp only [List.length_append, List.length_cons, List.length_nil]; omega) (by simp only [List.length_cons, List.length_nil]; omega) w
      obtain ⟨z1, hz1⟩ : ∃ z, s ++ [108, 105, 109, 105, 116, 32] = z := ⟨_, rfl⟩
      rw [hz1] at c1 c2 c3
      obtain ⟨z2, hz2⟩ : ∃ z, z1 ++ x = z := ⟨_, rfl⟩
      rw [hz2] at c2 c3
      obtain ⟨z3, hz3⟩ : ∃ z, z2 ++ [10] = z := ⟨_, rfl⟩
      rw [hz3] at c3
      have HEND := jQ (show z3 = Dd.srcF (L1 ++ L2.take (k + 1)) by
       rw [hsn, said2, ← hz3, ← hz2, ← hz1]
       simp [Dd.kStation, Dd.kLimit, Dd.kParcel, Dd.kVariation])
      clear hs hsn hln hz1 hz2 hz3  
      clear hx nm
      go_wp2_with fail
      refine ⟨⟨k + 1, by omega, by go_num, by rw [← HEND.o], P0.o⟩, ?_⟩
      show f.li.length - ((k : Int) + 1).toNat < f.li.length - ((k : Int)).toNat
      omega
     ·obtain rfl : k = f.li.length := by omega
      rw [show L2.take f.li.length = L2 by rw [← HN2.o, List.take_length]]
      go_wp2_with fail
      have S1 := P0
      clear P0 f0 f1 f2 f3 fl
      go_loopw [3, 6] (fun S I wr => ∃ k : Nat, k ≤ f.pa.length ∧ I = .int .i64 k ∧ S = .string ⟨(Dd.srcF (L1 ++ L2 ++ L3.take k)).toArray⟩ ∧ Fs w w.heap.size ⟨a1, k1, a2, k2, a3, k3, a4, k4⟩ f wr) (fun _ I _ => f.pa.length - (intOf I).toNat)
      case atStart => exact ⟨0, Nat.zero_le _, rfl, by simp, S1.o⟩
      case round =>
       obtain ⟨k, hk, rfl, rfl, hpl⟩ := hrel
       have P0 := jQ hpl
       clear hpl
       obtain ⟨f0, f1, f2, f3, fl⟩ := P0.o.cells
       by_cases hlt : k < f.pa.length
       ·obtain ⟨b, off, hA, hb, e0, e1, e2, e3⟩ := P0.o.r.pa.parcel hlt
        dsimp only at hA
        subst hA
        have hb2 : b < wr.heap.size := Nat.lt_of_lt_of_le hb P0.o.b.size
        have hki : (k : Int) < (f.pa.length : Int) := by omega
        have nm := NM3.o _ (List.getElem_mem hlt)
        have po := HPO.o _ (List.getElem_mem hlt)
        obtain ⟨x, hx⟩ : ∃ x, f.pa[k] = x := ⟨_, rfl⟩
        rw [hx] at e0 e1 e2 e3 nm po
        simp only [Dd.paOk, Dd.isIx, Bool.and_eq_true, decide_eq_true_eq] at po
        obtain ⟨xn, xs, xw, xe⟩ := x
        dsimp only at e0 e1 e2 e3 nm po
        obtain ⟨qs, rfl⟩ : ∃ n : Nat, xs = n := ⟨xs.toNat, by omega⟩
        obtain ⟨qw, rfl⟩ : ∃ n : Nat, xw = n := ⟨xw.toNat, by omega⟩
        obtain ⟨qe, rfl⟩ : ∃ n : Nat, xe = n := ⟨xe.toNat, by omega⟩
        have is : qs < f.li.length := by omega
        have iw : qw < f.st.length := by omega
        have ie : qe < f.st.length := by omega
        obtain ⟨b2, off2, hA, hbl, t1⟩ := P0.o.r.li.text is
        dsimp only at hA
        subst hA
        obtain ⟨b1, off1, hA, hbs, t2, -⟩ := P0.o.r.st.station iw
        dsimp only at hA
        subst hA
        obtain ⟨_, _, hA, -, t3, -⟩ := P0.o.r.st.station ie
        cases hA
        have lb2 : b2 < wr.heap.size := Nat.lt_of_lt_of_le hbl P0.o.b.size
        have lb1 : b1 < wr.heap.size := Nat.lt_of_lt_of_le hbs P0.o.b.size
        have nms := NM2.o _ (List.getElem_mem is)
        have nmw := NM1.o _ (List.getElem_mem iw)
        have nme := NM1.o _ (List.getElem_mem ie)
        obtain ⟨ys, hys⟩ : ∃ y, f.li[qs] = y := ⟨_, rfl⟩
        obtain ⟨yw, hyw⟩ : ∃ y, f.st[qw].1 = y := ⟨_, rfl⟩
        obtain ⟨ye, hye⟩ : ∃ y, f.st[qe].1 = y := ⟨_, rfl⟩
        rw [hys] at nms t1
        rw [hyw] at nmw t2
        rw [hye] at nme t3
        have ls1 : Dd.liAt f (qs : Int) = ys := by unfold Dd.liAt; rw [Int.toNat_natCast, List.getElem?_eq_getElem is, hys]; rfl
        have ls2 : Dd.stAt f (qw : Int) = yw := by unfold Dd.stAt; rw [Int.toNat_natCast, List.getElem?_eq_getElem iw]; exact hyw
        have ls3 : Dd.stAt f (qe : Int) = ye := by unfold Dd.stAt; rw [Int.toNat_natCast, List.getElem?_eq_getElem ie]; exact hye
        have i10 : (0 : Int) ≤ (qs : Int) := Int.natCast_nonneg _
        have i11 : (qs : Int) < (f.li.length : Int) := by omega
        have i20 : (0 : Int) ≤ (qw : Int) := Int.natCast_nonneg _
        have i21 : (qw : Int) < (f.st.length : Int) := by omega
        have i30 : (0 : Int) ≤ (qe : Int) := Int.natCast_nonneg _
        have i31 : (qe : Int) < (f.st.length : Int) := by omega
        have hln := HSP.o (L1 ++ L2 ++ L3.take k) (L3.drop k ++ L4) (by rw [HW.o]; simp only [List.append_assoc]; rw [← List.append_assoc (L3.take k), List.take_append_drop])
        have hsn : Dd.srcF (L1 ++ L2 ++ L3.take (k + 1)) = Dd.srcF (L1 ++ L2 ++ L3.take k) ++ (Dd.saidF [Dd.kParcel, xn, ys, yw, ye] ++ [10]) := by
         rw [← srcF_snoc, List.take_succ_eq_append_getElem (by rw [HN3.o]; exact hlt), ← List.append_assoc]
         congr 3
         simp only [← HL3.o, List.getElem_map, hx, ls1, ls2, ls3]
        obtain ⟨s, hs⟩ : ∃ s, Dd.srcF (L1 ++ L2 ++ L3.take k) = s := ⟨_, rfl⟩
        rw [hs] at hsn hln ⊢
        have c1 := fun w => cat2 (P := Tryz.prog) (s) [112, 97, 114, 99, 101, 108, 32] (by omega) (by simp only [List.length_cons, List.length_nil]; omega) w
        have c2 := fun w => cat2 (P := Tryz.prog) (s ++ [112, 97, 114, 99, 101, 108, 32]) xn (by simp only [List.length_append, List.length_cons, List.length_nil]; omega) (by omega) w
        have c3 := fun w => cat2 (P := Tryz.prog) (s ++ [112, 97, 114, 99, 101, 108, 32] ++ xn) [32] (by simp only [List.length_append, List.length_cons, List.length_nil]; omega) (by simp only [List.length_cons, List.length_nil]; omega) w
        have c4 := fun w => cat2 (P := Tryz.prog) (s ++ [112, 97, 114, 99, 101, 108, 32] ++ xn ++ [32]) ys (by simp only [List.length_append, List.length_cons, List.length_nil]; omega) (by omega) w
        have c5 := fun w => cat2 (P := Tryz.prog) (s ++ [112, 97, 114, 99, 101, 108, 32] ++ xn ++ [32] ++ ys) [32] (by simp only [List.length_append, List.length_cons, List.length_nil]; omega) (by simp only [List.length_cons, List.length_nil]; omega) w
        have c6 := fun w => cat2 (P := Tryz.prog) (s ++ [112, 97, 114, 99, 101, 108, 32] ++ xn ++ [32] ++ ys ++ [32]) yw (by simp only [List.length_append, List.length_cons, List.length_nil]; omega) (by omega) w
        have c7 := fun w => cat2 (P := Tryz.prog) (s ++ [112, 97, 114, 99, 101, 108, 32] ++ xn ++ [32] ++ ys ++ [32] ++ yw) [32] (by simp only [List.length_append, List.length_cons, List.length_nil]; omega) (by simp only [List.length_cons, List.length_nil]; omega) w
        have c8 := fun w => cat2 (P := Tryz.prog) (s ++ [112, 97, 114, 99, 101, 108, 32] ++ xn ++ [32] ++ ys ++ [32] ++ yw ++ [32]) ye (by simp only [List.length_append, List.length_cons, List.length_nil]; omega) (by omega) w
        have c9 := fun w => cat2 (P := Tryz.prog) (s ++ [112, 97, 114, 99, 101, 108, 32] ++ xn ++ [32] ++ ys ++ [32] ++ yw ++ [32] ++ ye) [10] (by simp only [List.length_append, List.length_cons, List.length_nil]; omega) (by simp only [List.length_cons, List.length_nil]; omega) w
        obtain ⟨z1, hz1⟩ : ∃ z, s ++ [112, 97, 114, 99, 101, 108, 32] = z := ⟨_, rfl⟩
        rw [hz1] at c1 c2 c3 c4 c5 c6 c7 c8 c9
        obtain ⟨z2, hz2⟩ : ∃ z, z1 ++ xn = z := ⟨_, rfl⟩
        rw [hz2] at c2 c3 c4 c5 c6 c7 c8 c9
        obtain ⟨z3, hz3⟩ : ∃ z, z2 ++ [32] = z := ⟨_, rfl⟩
        rw [hz3] at c3 c4 c5 c6 c7 c8 c9
        obtain ⟨z4, hz4⟩ : ∃ z, z3 ++ ys = z := ⟨_, rfl⟩
        rw [hz4] at c4 c5 c6 c7 c8 c9
        obtain ⟨z5, hz5⟩ : ∃ z, z4 ++ [32] = z := ⟨_, rfl⟩
        rw [hz5] at c5 c6 c7 c8 c9
        obtain ⟨z6, hz6⟩ : ∃ z, z5 ++ yw = z := ⟨_, rfl⟩
        rw [hz6] at c6 c7 c8 c9
        obtain ⟨z7, hz7⟩ : ∃ z, z6 ++ [32] = z := ⟨_, rfl⟩
        rw [hz7] at c7 c8 c9
        obtain ⟨z8, hz8⟩ : ∃ z, z7 ++ ye = z := ⟨_, rfl⟩
        rw [hz8] at c8 c9
        obtain ⟨z9, hz9⟩ : ∃ z, z8 ++ [10] = z := ⟨_, rfl⟩
        rw [hz9] at c9
        have HEND := jQ (show z9 = Dd.srcF (L1 ++ L2 ++ L3.take (k + 1)) by
         rw [hsn, said5, ← hz9, ← hz8, ← hz7, ← hz6, ← hz5, ← hz4, ← hz3, ← hz2, ← hz1]
         simp [Dd.kStation, Dd.kLimit, Dd.kParcel, Dd.kVariation])
        clear hs hsn hln hz1 hz2 hz3 hz4 hz5 hz6 hz7 hz8 hz9  
        clear hx nm po nms nmw nme ls1 ls2 ls3 hys hyw hye
        have hbn := (Below.refl wr.heap.size wr).alloc (Nat.le_refl _) (.cells #[.string ⟨xn.toArray⟩, .int .i64 (qs : Int), .int .i64 (qw : Int), .int .i64 (qe : Int)] 68)
        have hps : Fs w w.heap.size ⟨(some ⟨b1, off1, none⟩), k1, (some ⟨b2, off2, none⟩), k2, (some ⟨b, off, none⟩), k3, a4, k4⟩ f (wr.alloc (.cells #[.string ⟨xn.toArray⟩, .int .i64 (qs : Int), .int .i64 (qw : Int), .int .i64 (qe : Int)] 68)) ∧ Bk (wr.alloc (.cells #[.string ⟨xn.toArray⟩, .int .i64 (qs : Int), .int .i64 (qw : Int), .int .i64 (qe : Int)] 68)) wr.heap.size 68 #[.string ⟨xn.toArray⟩, .int .i64 (qs : Int), .int .i64 (qw : Int), .int .i64 (qe : Int)] := ⟨P0.o.next hbn, Bk.new _ _ _⟩
        have hct : (wr.alloc (.cells #[.string ⟨xn.toArray⟩, .int .i64 (qs : Int), .int .i64 (qw : Int), .int .i64 (qe : Int)] 68)).cell? ⟨b2, off2 + qs, none⟩ = some (.string ⟨ys.toArray⟩) ∧ (wr.alloc (.cells #[.string ⟨xn.toArray⟩, .int .i64 (qs : Int), .int .i64 (qw : Int), .int .i64 (qe : Int)] 68)).cell? ⟨b1, off1 + qw * 2, none⟩ = some (.string ⟨yw.toArray⟩) ∧ (wr.alloc (.cells #[.string ⟨xn.toArray⟩, .int .i64 (qs : Int), .int .i64 (qw : Int), .int .i64 (qe : Int)] 68)).cell? ⟨b1, off1 + qe * 2, none⟩ = some (.string ⟨ye.toArray⟩) :=
         ⟨(hbn.cell (p := ⟨b2, off2 + qs, none⟩) lb2).trans t1, (hbn.cell (p := ⟨b1, off1 + qw * 2, none⟩) lb1).trans t2, (hbn.cell (p := ⟨b1, off1 + qe * 2, none⟩) lb1).trans t3⟩
        go_upto_region 16 with fail
        refine wp_cutW (fun W => (Fs w w.heap.size ⟨(some ⟨b1, off1, none⟩), k1, (some ⟨b2, off2, none⟩), k2, (some ⟨b, off, none⟩), k3, a4, k4⟩ f W ∧ Bk W wr.heap.size 68 #[.string ⟨xn.toArray⟩, .int .i64 (qs : Int), .int .i64 (qw : Int), .int .i64 (qe : Int)]) ∧ W.cell? ⟨b2, off2 + qs, none⟩ = some (.string ⟨ys.toArray⟩) ∧ W.cell? ⟨b1, off1 + qw * 2, none⟩ = some (.string ⟨yw.toArray⟩) ∧ W.cell? ⟨b1, off1 + qe * 2, none⟩ = some (.string ⟨ye.toArray⟩)) ⟨hps, hct⟩ ?_
        obtain ⟨g, hg⟩ : ∃ g, wr.heap.size = g := ⟨_, rfl⟩
        rw [hg]
        clear e0 e1 e2 e3 hb hb2 hbn hps hg P0 hct t1 t2 t3 f0 f1 f2 f3 fl lb1 lb2 hbl hbs
        intro W4 hs
        obtain ⟨⟨hs4, hk4⟩, t1, t2, t3⟩ := hs
        have S4 := jQ hs4
        have x0 := (hk4.cell 0).trans rfl
        have x1 := (hk4.cell 1).trans rfl
        have x2 := (hk4.cell 2).trans rfl
        have x3 := (hk4.cell 3).trans rfl
        obtain ⟨f0, f1, f2, f3, fl⟩ := S4.o.cells
        clear hs4 hk4
        go_quiet (fail)
        go_wp2_with fail
        refine ⟨⟨k + 1, by omega, by go_num, by rw [← HEND.o], S4.o.next (below_drewN (Below.refl _ _) _)⟩, ?_⟩
        show f.pa.length - ((k : Int) + 1).toNat < f.pa.length - ((k : Int)).toNat
        omega
       ·obtain rfl : k = f.pa.length := by omega
        rw [show L3.take f.pa.length = L3 by rw [← HN3.o, List.take_length]]
        go_wp2_with fail
        have S1 := P0
        clear P0 f0 f1 f2 f3 fl
        go_loopw [3, 8] (fun S I wr => ∃ k : Nat, k ≤ f.va.length ∧ I = .int .i64 k ∧ S = .string ⟨(Dd.srcF (L1 ++ L2 ++ L3 ++ L4.take k)).toArray⟩ ∧ Fs w w.heap.size ⟨a1, k1, a2, k2, a3, k3, a4, k4⟩ f wr) (fun _ I _ => f.va.length - (intOf I).toNat)
        case atStart => exact ⟨0, Nat.zero_le _, rfl, by simp, S1.o⟩
        case round =>
         obtain ⟨k, hk, rfl, rfl, hpl⟩ := hrel
         have P0 := jQ hpl
         clear hpl
         obtain ⟨f0, f1, f2, f3, fl⟩ := P0.o.cells
         by_cases hlt : k < f.va.length
         ·obtain ⟨b, off, hA, hb, e0, e1⟩ := P0.o.r.va.var hlt
          dsimp only at hA
          subst hA
          have hki : (k : Int) < (f.va.length : Int) := by omega
          have nn := NN4.o _ (List.getElem_mem hlt)
          obtain ⟨x, hx⟩ : ∃ x, f.va[k] = x := ⟨_, rfl⟩
          have HX := jQ hx
          rw [hx] at e0 e1 nn
          have iD := Dd.itoa_le (n := x.1) (by omega) (by omega)
          have iF := Dd.itoa_le (n := x.2) (by omega) (by omega)
          have hg := fun W => qdigits_any x.1 (by omega) (by omega) W
          have hg2 := fun W => qdigits_any x.2 (by omega) (by omega) W
          have hln := HSP.o (L1 ++ L2 ++ L3 ++ L4.take k) (L4.drop k) (by rw [HW.o]; simp only [List.append_assoc]; rw [List.take_append_drop])
          have hsn : Dd.srcF (L1 ++ L2 ++ L3 ++ L4.take (k + 1)) = Dd.srcF (L1 ++ L2 ++ L3 ++ L4.take k) ++ (Dd.saidF [Dd.kVariation, Lib.itoa x.1, Lib.itoa x.2] ++ [10]) := by
           rw [← srcF_snoc, List.take_succ_eq_append_getElem (by rw [HN4.o]; exact hlt), ← List.append_assoc]
           congr 3
           simp only [← HL4.o, List.getElem_map, hx]
          obtain ⟨s, hs⟩ : ∃ s, Dd.srcF (L1 ++ L2 ++ L3 ++ L4.take k) = s := ⟨_, rfl⟩
          rw [hs] at hsn hln ⊢
          obtain ⟨D, hD⟩ : ∃ D, Lib.itoa x.1 = D := ⟨_, rfl⟩
          obtain ⟨F, hFF⟩ : ∃ F, Lib.itoa x.2 = F := ⟨_, rfl⟩
          rw [hD, hFF] at hsn
          rw [hD] at iD
          rw [hFF] at iF
          have c1 := fun w => cat2 (P := Tryz.prog) (s) [118, 97, 114, 105, 97, 116, 105, 111, 110, 32] (by omega) (by simp only [List.length_cons, List.length_nil]; omega) w
          have c2 := fun w => cat2 (P := Tryz.prog) (s ++ [118, 97, 114, 105, 97, 116, 105, 111, 110, 32]) D (by simp only [List.length_append, List.length_cons, List.length_nil]; omega) (by omega) w
          have c3 := fun w => cat2 (P := Tryz.prog) (s ++ [118, 97, 114, 105, 97, 116, 105, 111, 110, 32] ++ D) [32] (by simp only [List.length_append, List.length_cons, List.length_nil]; omega) (by simp only [List.length_cons, List.length_nil]; omega) w
          have c4 := fun w => cat2 (P := Tryz.prog) (s ++ [118, 97, 114, 105, 97, 116, 105, 111, 110, 32] ++ D ++ [32]) F (by simp only [List.length_append, List.length_cons, List.length_nil]; omega) (by omega) w
          have c5 := fun w => cat2 (P := Tryz.prog) (s ++ [118, 97, 114, 105, 97, 116, 105, 111, 110, 32] ++ D ++ [32] ++ F) [10] (by simp only [List.length_append, List.length_cons, List.length_nil]; omega) (by simp only [List.length_cons, List.length_nil]; omega) w
          obtain ⟨z1, hz1⟩ : ∃ z, s ++ [118, 97, 114, 105, 97, 116, 105, 111, 110, 32] = z := ⟨_, rfl⟩
          rw [hz1] at c1 c2 c3 c4 c5
          obtain ⟨z2, hz2⟩ : ∃ z, z1 ++ D = z := ⟨_, rfl⟩
          rw [hz2] at c2 c3 c4 c5
          obtain ⟨z3, hz3⟩ : ∃ z, z2 ++ [32] = z := ⟨_, rfl⟩
          rw [hz3] at c3 c4 c5
          obtain ⟨z4, hz4⟩ : ∃ z, z3 ++ F = z := ⟨_, rfl⟩
          rw [hz4] at c4 c5
          obtain ⟨z5, hz5⟩ : ∃ z, z4 ++ [10] = z := ⟨_, rfl⟩
          rw [hz5] at c5
          have HEND := jQ (show z5 = Dd.srcF (L1 ++ L2 ++ L3 ++ L4.take (k + 1)) by
           rw [hsn, said3, ← hz5, ← hz4, ← hz3, ← hz2, ← hz1]
           simp [Dd.kStation, Dd.kLimit, Dd.kParcel, Dd.kVariation])
          simp only [hD, sv_def] at hg
          simp only [hFF, sv_def] at hg2
          have HG := jQ hg
          have HG2 := jQ hg2
          clear hg hg2
          clear hs hsn hln hz1 hz2 hz3 hz4 hz5 hD hFF iD iF
          clear hx nn
          go_upto_region 20 with fail
          clear f0 f1 f2 f3 fl e0 e1
          have sZ : Fs w w.heap.size ⟨a1, k1, a2, k2, a3, k3, (some ⟨b, off, none⟩), k4⟩ f wr.drew := P0.o.next (Below.refl _ _).drew
          have HC := jQ (fun U (hp : Fs w w.heap.size ⟨a1, k1, a2, k2, a3, k3, (some ⟨b, off, none⟩), k4⟩ f U) => (show U.cell? ⟨w.heap.size, 3, none⟩ = some (.slice (some ⟨b, off, none⟩) f.va.length k4) ∧ U.cell? ⟨b, off + k * 2, none⟩ = some (.int .i64 x.1) ∧ U.cell? ⟨b, off + k * 2 + 1, none⟩ = some (.int .i64 x.2) from by
           obtain ⟨-, -, -, q0, -⟩ := hp.cells
           obtain ⟨_, _, eA, _, c0, c1⟩ := hp.r.va.var hlt
           cases eA
           rw [HX.o] at c0 c1
           exact ⟨q0, c0, c1⟩))
          obtain ⟨f3, e0, e1⟩ := HC.o _ P0.o
          go_region_held3 (fun U => U.cell? ⟨w.heap.size, 3, none⟩ = some (.slice (some ⟨b, off, none⟩) f.va.length k4) ∧ U.cell? ⟨b, off + k * 2, none⟩ = some (.int .i64 x.1) ∧ U.cell? ⟨b, off + k * 2 + 1, none⟩ = some (.int .i64 x.2))
           (first
            | ((try dsimp only); first | (with_reducible exact HC.o _ sI1) | (with_reducible exact HC.o _ sI0) | (with_reducible exact HC.o _ sZ))
            | go_keep)
           (first | (go_at_call 93; first | (refine (HG2.o v0).mono ?_; rintro e v1 ⟨rfl, hb1⟩; have sI1 := sI0.next hb1) | (refine (HG.o _).mono ?_; rintro e v0 ⟨rfl, hb0⟩; have sI0 := sZ.next hb0)))
          all_goals
           have SX := jQ sI1
           clear hb0 hb1 sZ sI0 sI1
           go_wp2_with fail
           refine ⟨⟨k + 1, by omega, by go_num, by rw [← HEND.o], SX.o⟩, ?_⟩
           show f.va.length - ((k : Int) + 1).toNat < f.va.length - ((k : Int)).toNat
           omega
         ·obtain rfl : k = f.va.length := by omega
          rw [show L4.take f.va.length = L4 by rw [← HN4.o, List.take_length]]
          rw [← HW.o, ← HD.o]
          go_wp2_with fail
          go_ret
          exact ⟨rfl, P0.o.b⟩
 ·rw [if_pos he] at hd
  have hne : (ef != 0) = true := by simp [he]
  rw [hd]
  clear hF hd hef he
  obtain ⟨f0, f1, f2, f3, fl⟩ := S0.o.cells
  go_enter Tryz.func38, Tryz.ntmps38
  go_wp2_with fail
  refine (B0.o _ S0.o).mono ?_
  rintro e w1 ⟨rfl, hb⟩
  have S1 := jQ (S0.o.next hb)
  clear hb f0 f1 f2 f3 fl S0
  go_wp2_with fail
  go_ret
  exact ⟨rfl, S1.o.b⟩
end
end Go.Proofs.YtccikcpcfdjobaaGreatDoor
