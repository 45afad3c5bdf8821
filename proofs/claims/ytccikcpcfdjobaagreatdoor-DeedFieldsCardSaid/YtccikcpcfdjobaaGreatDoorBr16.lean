/-
  What the claims of layer deed need of the texts DPts, DQa, DQn.
-/
import Derived.Test.YtccikcpcfdjobaaGreatDoorBr15
import Derived.Test.YtccikcpcfdjobaaGreatDoorBr04
import Derived.Test.YtccikcpcfdjobaaGreatDoorBr10
import Derived.Test.YtccikcpcfdjobaaGreatDoorBr07
import Derived.Test.YtccikcpcfdjobaaGreatDoorBz
set_option linter.unusedVariables false
set_option linter.unusedSimpArgs false
set_option maxHeartbeats 8000000
set_option maxRecDepth 100000
namespace Go.Proofs.YtccikcpcfdjobaaGreatDoor
section
open Go.RowKit
theorem fval_def (v : Fv) (f : Dd.Fd) : fval v f = .agg #[.slice v.a1 f.st.length v.c1, .slice v.a2 f.li.length v.c2, .slice v.a3 f.pa.length v.c3, .slice v.a4 f.va.length v.c4] := rfl
theorem mul_small {l : Int} {n : Nat} (h0 : 0 ≤ l) (h1 : l ≤ 1000000) (hn : n ≤ 1000000) : 0 ≤ l * (n : Int) ∧ l * (n : Int) ≤ 1000000000000 := by
 refine ⟨Int.mul_nonneg h0 (by omega), ?_⟩
 have := Int.mul_le_mul h1 (show (n : Int) ≤ 1000000 by omega) (by omega) (by omega)
 omega
theorem pointOf_any (v : Fv) (f : Dd.Fd) (l s : Int) (hn : f.st.length ≤ 1000000) (h0 : 0 ≤ l) (h1 : l ≤ 1000000) (h2 : 0 ≤ s) (h3 : s ≤ 1000000) (w : World) :
  Calls Tryz.prog 45 #[fval v f, .int .i64 l, .int .i64 s] w fun e w' => e = .returned (.int .i64 (Dd.pt f l s)) ∧ Below w.heap.size w w' := by
 have hd : Dd.pt f l s = 1 + l * f.st.length + s := rfl
 obtain ⟨m0, m1⟩ := mul_small h0 h1 hn
 rw [hd, fval_def]
 obtain ⟨P, hP⟩ : ∃ P, l * (f.st.length : Int) = P := ⟨_, rfl⟩
 rw [hP] at m0 m1 ⊢
 clear hd
 go_enter Tryz.func45, Tryz.ntmps45
 go_wp2_with fail
 go_ret
 exact ⟨rfl, (Below.refl _ _).alloc (Nat.le_refl _) _⟩
theorem pts_cast (f : Dd.Fd) : (Dd.ptsN f : Int) = 1 + (f.li.length : Int) * f.st.length := by
 unfold Dd.ptsN
 simp
theorem pointsOf_any (v : Fv) (f : Dd.Fd) (hn : f.st.length ≤ 1000000) (hm : f.li.length ≤ 1000000) (w : World) :
  Calls Tryz.prog 49 #[fval v f] w fun e w' => e = .returned (.int .i64 (Dd.ptsN f)) ∧ Below w.heap.size w w' := by
 obtain ⟨m0, m1⟩ := mul_small (l := f.li.length) (by omega) (by omega) hn
 rw [pts_cast, fval_def]
 obtain ⟨P, hP⟩ : ∃ P, (f.li.length : Int) * (f.st.length : Int) = P := ⟨_, rfl⟩
 rw [hP] at m0 m1 ⊢
 go_enter Tryz.func49, Tryz.ntmps49
 go_wp2_with fail
 go_ret
 exact ⟨rfl, (Below.refl _ _).alloc (Nat.le_refl _) _⟩
theorem Points_any (v : Fv) (f : Dd.Fd) (w : World) (hF : FRd w w.heap.size v f) : Calls Tryz.prog 39 #[fval v f] w fun e w' => e = .returned (.int .i64 (Dd.ptsF f)) ∧ Below w.heap.size w w' := by
 have hd : Dd.ptsF f = if Dd.fieldE f = 0 then (Dd.ptsN f : Int) else 0 := rfl
 have hl1 := hF.l1
 have hl2 := hF.l2
 have S0 := jQ (Fs.new hF)
 have B0 := jQ (fun W (h : Fs w w.heap.size v f W) => checkField_any v f W h.rd)
 have B1 := jQ (fun W => pointsOf_any v f hl1 hl2 W)
 rw [hd]
 obtain ⟨N, hN⟩ : ∃ n : Int, (Dd.ptsN f : Int) = n := ⟨_, rfl⟩
 obtain ⟨ef, hef⟩ : ∃ e, Dd.fieldE f = e := ⟨_, rfl⟩
 rw [hef] at B0 ⊢
 rw [hN] at B1 ⊢
 simp only [fval_def] at B0 B1 ⊢
 obtain ⟨c0, c1, c2, c3, lg⟩ := S0.o.cells
 clear hd hF hef hN
 by_cases he : ef = 0
 ·subst he
  rw [if_pos rfl]
  go_enter Tryz.func39, Tryz.ntmps39
  go_wp2_with fail
  refine (B0.o _ S0.o).mono ?_
  rintro e w1 ⟨rfl, hb⟩
  have S1 := jQ (S0.o.next hb)
  clear hb c0 c1 c2 c3 lg
  obtain ⟨c0, c1, c2, c3, lg⟩ := S1.o.cells
  go_wp2_with fail
  refine (B1.o _).mono ?_
  rintro e w2 ⟨rfl, hb⟩
  have S2 := jQ (S1.o.next hb)
  clear hb c0 c1 c2 c3 lg
  go_wp2_with fail
  go_ret
  exact ⟨rfl, S2.o.b⟩
 ·rw [if_neg he]
  have hne : (ef != 0) = true := by simp [he]
  go_enter Tryz.func39, Tryz.ntmps39
  go_wp2_with fail
  refine (B0.o _ S0.o).mono ?_
  rintro e w1 ⟨rfl, hb⟩
  have S1 := jQ (S0.o.next hb)
  clear hb c0 c1 c2 c3 lg
  go_wp2_with fail
  go_ret
  exact ⟨rfl, S1.o.b⟩
end

section
open Go.RowKit
theorem qWithin_any (n a b : Int) (w : World) : Calls Tryz.prog 51 #[.int .i64 n, .int .i64 a, .int .i64 b] w fun e w' => e = .returned (.bool (decide (a ≤ n ∧ n ≤ b))) ∧ w' = w := by
 by_cases h1 : a ≤ n
 ·have d1 : decide (n ≥ a) = true := decide_eq_true h1
  by_cases h2 : n ≤ b
  ·have d2 : decide (n ≤ b) = true := decide_eq_true h2
   have HR := jQ (show decide (a ≤ n ∧ n ≤ b) = true from decide_eq_true ⟨h1, h2⟩)
   rw [HR.o]
   clear h1 h2
   go_enter Tryz.func51, Tryz.ntmps51
   go_wp2_with fail
   go_ret
   exact ⟨rfl, rfl⟩
  ·have d2 : decide (n ≤ b) = false := decide_eq_false h2
   have HR := jQ (show decide (a ≤ n ∧ n ≤ b) = false from decide_eq_false (by omega))
   rw [HR.o]
   clear h1 h2
   go_enter Tryz.func51, Tryz.ntmps51
   go_wp2_with fail
   go_ret
   exact ⟨rfl, rfl⟩
 ·have d1 : decide (n ≥ a) = false := decide_eq_false h1
  have HR := jQ (show decide (a ≤ n ∧ n ≤ b) = false from decide_eq_false (by omega))
  rw [HR.o]
  clear h1
  go_enter Tryz.func51, Tryz.ntmps51
  go_wp2_with fail
  go_ret
  exact ⟨rfl, rfl⟩
theorem qPlace_any (A : Option Addr) (c : Nat) (l : List Cs.Bs) (s : Cs.Bs) (w : World) (hR : Rd w w.heap.size 1 A l.length (wcells l)) (hl : l.length ≤ 1000000) :
  Calls Tryz.prog 88 #[.slice A l.length c, .string ⟨s.toArray⟩] w fun e w' => e = .returned (.int .i64 (Dd.idxP (fun x => decide (x = s)) l 0)) ∧ Below w.heap.size w w' := by
 have HR := jQ hR
 obtain ⟨R, hRR⟩ : ∃ R, Dd.idxP (fun x => decide (x = s)) l 0 = R := ⟨_, rfl⟩
 rw [hRR]
 have HRR := jQ hRR
 clear hR hRR
 go_enter Tryz.func88, Tryz.ntmps88
 go_wp2_with fail
 go_loopw [5] (fun I wr => ∃ k : Nat, k ≤ l.length ∧ I = .int .i64 k ∧ (∀ j (h : j < l.length), j < k → decide (l[j] = s) = false) ∧ Below w.heap.size w wr) (fun I _ => l.length - (intOf I).toNat)
 case atStart => exact ⟨0, Nat.zero_le _, rfl, (fun j h hj => absurd hj (by omega)), Below.refl _ _⟩
 case round =>
  obtain ⟨k, hk, rfl, ha, hB⟩ := hrel
  have HA := jQ ha
  have HB := jQ hB
  clear ha hB
  by_cases hlt : k < l.length
  ·obtain ⟨b, off, rfl, hb, e0⟩ := (HR.o.below HB.o (Nat.le_refl _)).text hlt
   have hb2 : b < wr.heap.size := Nat.lt_of_lt_of_le hb HB.o.size
   obtain ⟨x, hx⟩ : ∃ x, l[k] = x := ⟨_, rfl⟩
   rw [hx] at e0
   have HX := jQ hx
   by_cases hxs : x = s
   ·have HRK := jQ (show R = k by rw [← HRR.o]; exact Dd.idxP_at hlt (by rw [HX.o]; exact decide_eq_true hxs) (fun j hj => HA.o j (by omega) hj))
    subst hxs
    clear hx
    go_wp2_with fail
    go_ret
    exact ⟨ret_int HRK.o.symm, HB.o⟩
   ·have HXS := jQ hxs
    clear hx
    have hbe : (x == s) = false := by simpa using hxs
    clear hxs
    go_wp2_with fail
    go_roundw
    case rel =>
     refine ⟨k + 1, by omega, by go_num, fun j h hj => ?_, HB.o⟩
     by_cases e : j = k
     ·subst e
      rw [HX.o]
      exact decide_eq_false HXS.o
     ·exact HA.o j h (by omega)
    case measure => simp [intOf]; omega
  ·have HRK := jQ (show R = -1 by rw [← HRR.o]; exact Dd.idxP_no (fun j h => HA.o j h (by omega)))
   obtain rfl : k = l.length := by omega
   go_wp2_with fail
   go_ret
   exact ⟨ret_int HRK.o.symm, HB.o⟩
def Dd.comQ (p q : Dd.Pa) : Int := max 0 (min p.east q.east - max p.west q.west + 1)
theorem Dd.comQ_facing (p q : Dd.Pa) : decide (1 < Dd.comQ p q) = Dd.facing p q := by
 unfold Dd.comQ Dd.facing
 rw [Bool.eq_iff_iff]
 simp only [decide_eq_true_eq]
 omega
def Dd.Small (p : Dd.Pa) : Prop := -1000000 ≤ p.west ∧ p.west ≤ 1000000 ∧ -1000000 ≤ p.east ∧ p.east ≤ 1000000
theorem qCommon_any (p q : Dd.Pa) (hp : Dd.Small p) (hq : Dd.Small q) (w : World) : Calls Tryz.prog 52 #[.agg #[.string ⟨p.name.toArray⟩, .int .i64 p.south, .int .i64 p.west, .int .i64 p.east], .agg #[.string ⟨q.name.toArray⟩, .int .i64 q.south, .int .i64 q.west, .int .i64 q.east]] w
  fun e w' => e = .returned (.int .i64 (Dd.comQ p q)) ∧ Below w.heap.size w w' := by
 obtain ⟨p1, p2, p3, p4⟩ := hp
 obtain ⟨q1, q2, q3, q4⟩ := hq
 have hd : Dd.comQ p q = max 0 (min p.east q.east - max p.west q.west + 1) := rfl
 obtain ⟨n1, s1, a1, b1⟩ := p
 obtain ⟨n2, s2, a2, b2⟩ := q
 dsimp only at p1 p2 p3 p4 q1 q2 q3 q4 hd ⊢
 have hw1 : IntKind.i64.wrap (min b1 b2 - max a1 a2) = min b1 b2 - max a1 a2 := IntWalk.i64_in _ (by omega)
 have hw2 : IntKind.i64.wrap (min b1 b2 - max a1 a2 + 1) = min b1 b2 - max a1 a2 + 1 := IntWalk.i64_in _ (by omega)
 have HD := jQ hd
 obtain ⟨R, hR⟩ : ∃ R, Dd.comQ ⟨n1, s1, a1, b1⟩ ⟨n2, s2, a2, b2⟩ = R := ⟨_, rfl⟩
 rw [hR] at HD ⊢
 clear hd hR p1 p2 p3 p4 q1 q2 q3 q4
 go_enter Tryz.func52, Tryz.ntmps52
 go_wp2_with fail
 go_ret
 exact ⟨ret_int HD.o.symm, ((Below.refl _ _).alloc (Nat.le_refl _) _).alloc (by simp) _⟩
theorem qPoint_any (v : Fv) (f : Dd.Fd) (l s : Int) (hn : f.st.length ≤ 1000000) (h0 : 0 ≤ l) (h1 : l ≤ 1000000) (h2 : 0 ≤ s) (h3 : s ≤ 1000000) (w : World) :
  Calls Tryz.prog 47 #[fval v f, .int .i64 l, .int .i64 s] w fun e w' => e = .returned (.int .i64 (Dd.pt f l s)) ∧ Below w.heap.size w w' := by
 have hd : Dd.pt f l s = 1 + l * f.st.length + s := rfl
 obtain ⟨m0, m1⟩ := mul_small h0 h1 hn
 rw [hd, fval_def]
 obtain ⟨P, hP⟩ : ∃ P, l * (f.st.length : Int) = P := ⟨_, rfl⟩
 rw [hP] at m0 m1 ⊢
 clear hd
 go_enter Tryz.func47, Tryz.ntmps47
 go_wp2_with fail
 go_ret
 exact ⟨rfl, (Below.refl _ _).alloc (Nat.le_refl _) _⟩
end

section
open Go.RowKit
theorem qbyte {l : Cs.Bs} {k : Nat} (hk : k < l.length) (h : k < (⟨l.toArray⟩ : ByteArray).size) : (⟨l.toArray⟩ : ByteArray)[k] = l[k] := rfl
theorem qName_any (s : Cs.Bs) (hs : s.length ≤ 1000000) (w : World) : Calls Tryz.prog 87 #[.string ⟨s.toArray⟩] w fun e w' => e = .returned (.bool (Dd.nameF s)) ∧ Below w.heap.size w w' := by
 have hbs : (⟨s.toArray⟩ : ByteArray).size = s.length := by show s.toArray.size = _; simp
 obtain ⟨R, hR⟩ : ∃ R, Dd.nameF s = R := ⟨_, rfl⟩
 rw [hR]
 have HR := jQ hR
 clear hR
 by_cases h0 : s.length < 1
 ·have d1 : decide ((s.length : Int) < 1) = true := decide_eq_true (by omega)
  have HRF := jQ (show R = false by
   rw [← HR.o]
   obtain rfl : s = [] := by cases s with | nil => rfl | cons a b => simp at h0
   rfl)
  go_enter Tryz.func87, Tryz.ntmps87
  go_wp2_with fail
  go_ret
  exact ⟨ret_bool HRF.o.symm, Below.refl _ _⟩
 have d1 : decide ((s.length : Int) < 1) = false := decide_eq_false (by omega)
 by_cases h1 : 24 < s.length
 ·have d2 : decide ((s.length : Int) > 24) = true := decide_eq_true (by omega)
  have HRF := jQ (show R = false by
   rw [← HR.o]
   unfold Dd.nameF
   rw [decide_eq_false (by omega), Bool.false_and, Bool.false_and])
  go_enter Tryz.func87, Tryz.ntmps87
  go_wp2_with fail
  go_ret
  exact ⟨ret_bool HRF.o.symm, Below.refl _ _⟩
 have d2 : decide ((s.length : Int) > 24) = false := decide_eq_false (by omega)
 have h00 : 0 < s.length := by omega
 have hb0 := fun h => qbyte h00 h
 have hhead : Dd.headF s = Dd.isLet s[0] := by cases s with | nil => simp at h00 | cons a b => rfl
 have hsz0 : 0 < (⟨s.toArray⟩ : ByteArray).size := by omega
 have hc := (s[0]).toNat_lt
 have hlet : Dd.isLet s[0] = decide (97 ≤ (s[0]).toNat ∧ (s[0]).toNat ≤ 122) := rfl
 obtain ⟨c, hcc⟩ : ∃ c, s[0] = c := ⟨_, rfl⟩
 rw [hcc] at hhead hc hlet
 simp only [hcc] at hb0
 obtain ⟨m, hm⟩ : ∃ m, c.toNat = m := ⟨_, rfl⟩
 rw [hm] at hc hlet
 have HHEAD := jQ (hhead.trans hlet)
 clear hhead hlet hcc
 by_cases h2 : m < 97
 ·have d3 : decide ((m : Int) < 97) = true := decide_eq_true (by omega)
  have HRF := jQ (show R = false by
   rw [← HR.o]
   unfold Dd.nameF
   rw [HHEAD.o, decide_eq_false (p := 97 ≤ m ∧ m ≤ 122) (by omega), Bool.and_false, Bool.false_and])
  go_enter Tryz.func87, Tryz.ntmps87
  go_wp2_with fail
  go_ret
  exact ⟨ret_bool HRF.o.symm, Below.refl _ _⟩
 have d3 : decide ((m : Int) < 97) = false := decide_eq_false (by omega)
 by_cases h3 : 122 < m
 ·have d4 : decide ((m : Int) > 122) = true := decide_eq_true (by omega)
  have HRF := jQ (show R = false by
   rw [← HR.o]
   unfold Dd.nameF
   rw [HHEAD.o, decide_eq_false (p := 97 ≤ m ∧ m ≤ 122) (by omega), Bool.and_false, Bool.false_and])
  go_enter Tryz.func87, Tryz.ntmps87
  go_wp2_with fail
  go_ret
  exact ⟨ret_bool HRF.o.symm, Below.refl _ _⟩
 have d4 : decide ((m : Int) > 122) = false := decide_eq_false (by omega)
 have HALL := jQ (show R = s.all Dd.nameC by
  rw [← HR.o]
  unfold Dd.nameF
  rw [HHEAD.o, decide_eq_true (p := 97 ≤ m ∧ m ≤ 122) (by omega), decide_eq_true (by omega), Bool.true_and, Bool.true_and])
 clear HR h0 h1 h2 h3 hc HHEAD
 go_enter Tryz.func87, Tryz.ntmps87
 go_wp2_with fail
 clear hb0 d1 d2 d3 d4 hm hsz0
 go_loopw [3] (fun I wr => ∃ k : Nat, k ≤ s.length ∧ I = .int .i64 k ∧ wr = w ∧ ∀ j (h : j < s.length), j < k → Dd.nameC s[j] = true) (fun I _ => s.length - (intOf I).toNat)
 case atStart => exact ⟨0, Nat.zero_le _, rfl, rfl, fun j h hj => absurd hj (by omega)⟩
 case round =>
  obtain ⟨k, hk, rfl, rfl, ha⟩ := hrel
  have HA := jQ ha
  clear ha
  by_cases hlt : k < s.length
  ·have hbk := fun h => qbyte hlt h
   have hszk : k < (⟨s.toArray⟩ : ByteArray).size := by omega
   have HNO := jQ (show Dd.nameC s[k] = false → R = false by
    intro h
    rw [HALL.o, ← Bool.not_eq_true, List.all_eq_true]
    intro h2
    have := h2 _ (List.getElem_mem hlt)
    rw [h] at this
    cases this)
   have hnc : Dd.nameC s[k] = (decide (97 ≤ (s[k]).toNat ∧ (s[k]).toNat ≤ 122) || decide (48 ≤ (s[k]).toNat ∧ (s[k]).toNat ≤ 57) || decide ((s[k]).toNat = 45)) := rfl
   have hbr := (s[k]).toNat_lt
   obtain ⟨x, hx⟩ : ∃ x, s[k] = x := ⟨_, rfl⟩
   rw [hx] at hnc hbr HNO
   simp only [hx] at hbk
   have HX := jQ hx
   obtain ⟨n, hn⟩ : ∃ n, x.toNat = n := ⟨_, rfl⟩
   rw [hn] at hnc hbr
   have HNC := jQ hnc
   clear hnc hx
   by_cases q1 : n < 97
   ·by_cases q2 : n < 48
    ·by_cases q : n = 45
     ·have d1 : decide ((n : Int) < 97) = true := decide_eq_true (by omega)
      have d3 : decide ((n : Int) < 48) = true := decide_eq_true (by omega)
      have d5 : ((n : Int) != 45) = false := by rw [q]; rfl
      have HV := jQ (show Dd.nameC x = true by rw [HNC.o]; simp only [Bool.or_eq_true, decide_eq_true_eq]; omega)
      go_wp2_with fail
      go_roundw
      case rel =>
       refine ⟨k + 1, by omega, by go_num, trivial, fun j h hj => ?_⟩
       by_cases e : j = k
       ·subst e
        rw [HX.o]
        exact HV.o
       ·exact HA.o j h (by omega)
      case measure => simp [intOf]; omega
     ·have d1 : decide ((n : Int) < 97) = true := decide_eq_true (by omega)
      have d3 : decide ((n : Int) < 48) = true := decide_eq_true (by omega)
      have d5 : ((n : Int) != 45) = true := by simp only [bne_iff_ne]; omega
      have HV := jQ (HNO.o (by rw [HNC.o, Bool.eq_false_iff]; simp only [ne_eq, Bool.or_eq_true, decide_eq_true_eq]; omega))
      go_wp2_with fail
      go_ret
      exact ⟨ret_bool HV.o.symm, Below.refl _ _⟩
    ·by_cases q3 : 57 < n
     ·have d1 : decide ((n : Int) < 97) = true := decide_eq_true (by omega)
      have d3 : decide ((n : Int) < 48) = false := decide_eq_false (by omega)
      have d4 : decide ((n : Int) > 57) = true := decide_eq_true (by omega)
      have d5 : ((n : Int) != 45) = true := by simp only [bne_iff_ne]; omega
      have HV := jQ (HNO.o (by rw [HNC.o, Bool.eq_false_iff]; simp only [ne_eq, Bool.or_eq_true, decide_eq_true_eq]; omega))
      go_wp2_with fail
      go_ret
      exact ⟨ret_bool HV.o.symm, Below.refl _ _⟩
     ·have d1 : decide ((n : Int) < 97) = true := decide_eq_true (by omega)
      have d3 : decide ((n : Int) < 48) = false := decide_eq_false (by omega)
      have d4 : decide ((n : Int) > 57) = false := decide_eq_false (by omega)
      have HV := jQ (show Dd.nameC x = true by rw [HNC.o]; simp only [Bool.or_eq_true, decide_eq_true_eq]; omega)
      go_wp2_with fail
      go_roundw
      case rel =>
       refine ⟨k + 1, by omega, by go_num, trivial, fun j h hj => ?_⟩
       by_cases e : j = k
       ·subst e
        rw [HX.o]
        exact HV.o
       ·exact HA.o j h (by omega)
      case measure => simp [intOf]; omega
   ·by_cases q4 : 122 < n
    ·have d1 : decide ((n : Int) < 97) = false := decide_eq_false (by omega)
     have d2 : decide ((n : Int) > 122) = true := decide_eq_true (by omega)
     have d3 : decide ((n : Int) < 48) = false := decide_eq_false (by omega)
     have d4 : decide ((n : Int) > 57) = true := decide_eq_true (by omega)
     have d5 : ((n : Int) != 45) = true := by simp only [bne_iff_ne]; omega
     have HV := jQ (HNO.o (by rw [HNC.o, Bool.eq_false_iff]; simp only [ne_eq, Bool.or_eq_true, decide_eq_true_eq]; omega))
     go_wp2_with fail
     go_ret
     exact ⟨ret_bool HV.o.symm, Below.refl _ _⟩
    ·have d1 : decide ((n : Int) < 97) = false := decide_eq_false (by omega)
     have d2 : decide ((n : Int) > 122) = false := decide_eq_false (by omega)
     have HV := jQ (show Dd.nameC x = true by rw [HNC.o]; simp only [Bool.or_eq_true, decide_eq_true_eq]; omega)
     go_wp2_with fail
     go_roundw
     case rel =>
      refine ⟨k + 1, by omega, by go_num, trivial, fun j h hj => ?_⟩
      by_cases e : j = k
      ·subst e
       rw [HX.o]
       exact HV.o
      ·exact HA.o j h (by omega)
     case measure => simp [intOf]; omega
  ·have HRT := jQ (show R = true by
    rw [HALL.o, List.all_eq_true]
    intro x hx
    obtain ⟨j, hj, rfl⟩ := List.getElem_of_mem hx
    exact HA.o j hj (by omega))
   obtain rfl : k = s.length := by omega
   go_wp2_with fail
   go_ret
   exact ⟨ret_bool HRT.o.symm, Below.refl _ _⟩
end
end Go.Proofs.YtccikcpcfdjobaaGreatDoor
