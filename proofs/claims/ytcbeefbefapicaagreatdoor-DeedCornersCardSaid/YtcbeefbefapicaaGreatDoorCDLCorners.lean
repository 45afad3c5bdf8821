/-
  DeedCorners: the law's walk.
-/
import Derived.Test.YtcbeefbefapicaaGreatDoorBn42
import Derived.Test.YtcbeefbefapicaaGreatDoorBn16
set_option linter.unusedVariables false
set_option linter.unusedSimpArgs false
namespace Go.Proofs.YtcbeefbefapicaaGreatDoor
open Go.RowKit
set_option maxRecDepth 100000

theorem Dd.pts_small {w : World} {B : Nat} {v : Fv} {f : Dd.Fd} (_ : FRw w B v f) (h : FRd w B v f) : Dd.ptsF f ≤ 9223372036854775807 := by
 have h1 := h.l1
 have h2 := h.l2
 have hm := Nat.mul_le_mul h2 h1
 unfold Dd.ptsF Dd.ptsN
 split <;> omega

set_option maxHeartbeats 4000000 in
theorem corners_0a (v : Fv) (f : Dd.Fd) (l s p : Int) (hp64 : -9223372036854775808 ≤ p ∧ p ≤ 9223372036854775807) (w : World) (hE : Env w) (hF : FRw w w.heap.size v f) (hv : Dd.vastF f = false) (h1 : ¬ (Dd.pointF f l s).2 = 0) (h2 : (Dd.cornerF f p).2.2 = 0) :
  Calls Tryz.prog 3 #[fval v f, .int .i64 l, .int .i64 s, .int .i64 p] w fun e w' => e = .returned (.bool true) ∧ Below w.heap.size w w' := by
 have va := fun W (h : Lf w v f W) (hr : FRw W W.heap.size v f) => vast_any v f W hr
 have hraw := (hF.below ((Below.refl w.heap.size w).alloc (Nat.le_refl _) (.cells #[.slice v.a1 f.st.length v.c1, .slice v.a2 f.li.length v.c2, .slice v.a3 f.pa.length v.c3, .slice v.a4 f.va.length v.c4] 27)) (Nat.le_refl _)).more ((Below.refl w.heap.size w).alloc (Nat.le_refl _) (.cells #[.slice v.a1 f.st.length v.c1, .slice v.a2 f.li.length v.c2, .slice v.a3 f.pa.length v.c3, .slice v.a4 f.va.length v.c4] 27)).size
 rw [hv] at va
 have S0 := Lib.hid (Lf.new hE (hF.small hv))
 have PO := fun a b W (h : Lf w v f W) => Point_any v f a b W h.rd
 have CO := fun q (hq : -9223372036854775808 ≤ q ∧ q ≤ 9223372036854775807) W (h : Lf w v f W) => Corner_any v f q hq W h.rd
 have ps := fun W (h : Lf w v f W) => Points_any v f W h.rd
 have SP := Lib.hid (fun W (h : Env W) => spoken_any W h)
 have p1 := PO l s
 have c2 := CO p hp64
 obtain ⟨P, hP⟩ : ∃ P, (Dd.pointF f l s).1 = P := ⟨_, rfl⟩
 obtain ⟨E1, hE1⟩ : ∃ E, (Dd.pointF f l s).2 = E := ⟨_, rfl⟩
 rw [hP, hE1] at p1
 have e1 : (E1 == 0) = false := by simpa [hE1] using h1
 obtain ⟨a2, ha2⟩ : ∃ a, (Dd.cornerF f p).1 = a := ⟨_, rfl⟩
 obtain ⟨b2, hb2⟩ : ∃ b, (Dd.cornerF f p).2.1 = b := ⟨_, rfl⟩
 have hcr : Dd.cornerF f p = (a2, b2, 0) := by rw [← ha2, ← hb2, ← h2]
 have hpt := Dd.corner_point hcr
 obtain ⟨hf0, q1, q2, -⟩ := Dd.corner_ok hcr
 have p2 := PO a2 b2
 rw [hpt] at p2
 rw [hcr] at c2
 have hpe : Dd.ptsF f = Dd.ptsN f := by unfold Dd.ptsF; rw [if_pos hf0]
 obtain ⟨T, hT⟩ : ∃ T, Dd.ptsF f = T := ⟨_, rfl⟩
 rw [hT] at ps hpe
 simp only [fval_def] at va ps p1 c2 p2 S0 ⊢
 have VA := Lib.hid va
 have PS := Lib.hid ps
 have P1 := Lib.hid p1
 have C2 := Lib.hid c2
 have P2 := Lib.hid p2
 have d4 : (T == 0) = false := beq_eq_false_iff_ne.2 (by omega)
 have d5 : decide (p ≥ 1) = true := decide_eq_true (by omega)
 have d6 : decide (p < T) = true := decide_eq_true (by omega)
 have HRAW := Lib.hid hraw
 clear hraw va ps hF hv hE h1 h2 hP hT PO CO ha2 hb2 p1 c2 p2 hp64 hE1 hcr hpt hf0 q1 q2 hpe
 go_enter Tryz.func3, Tryz.ntmps3
 obtain ⟨f0, f1, f2, f3, fl⟩ := S0.out.cells
 go_wp2_with fail
 refine (VA.out _ S0.out HRAW.out).mono ?_
 rintro e w1 ⟨rfl, hb⟩
 have S1 := Lib.hid (S0.out.next hb)
 clear hb f0 f1 f2 f3 fl S0
 obtain ⟨f0, f1, f2, f3, fl⟩ := S1.out.cells
 go_wp2_with fail
 refine (P1.out _ S1.out).mono ?_
 rintro e w2 ⟨rfl, hb⟩
 have S2 := Lib.hid (S1.out.next hb)
 clear hb f0 f1 f2 f3 fl S1
 obtain ⟨f0, f1, f2, f3, fl⟩ := S2.out.cells
 go_wp2_with fail
 refine (C2.out _ S2.out).mono ?_
 rintro e w3 ⟨rfl, hb⟩
 have S3 := Lib.hid (S2.out.next hb)
 clear hb f0 f1 f2 f3 fl S2
 obtain ⟨f0, f1, f2, f3, fl⟩ := S3.out.cells
 go_wp2_with fail
 refine (P2.out _ S3.out).mono ?_
 rintro e w4 ⟨rfl, hb⟩
 have S4 := Lib.hid (S3.out.next hb)
 clear hb f0 f1 f2 f3 fl S3
 obtain ⟨f0, f1, f2, f3, fl⟩ := S4.out.cells
 go_wp2_with fail
 refine (SP.out _ S4.out.e).mono ?_
 rintro e w5 ⟨rfl, hb⟩
 have S5 := Lib.hid (S4.out.next hb)
 clear hb f0 f1 f2 f3 fl S4
 obtain ⟨f0, f1, f2, f3, fl⟩ := S5.out.cells
 go_wp2_with fail
 refine (PS.out _ S5.out).mono ?_
 rintro e w6 ⟨rfl, hb⟩
 have S6 := Lib.hid (S5.out.next hb)
 clear hb f0 f1 f2 f3 fl S5
 obtain ⟨f0, f1, f2, f3, fl⟩ := S6.out.cells
 go_wp2_with fail
 refine (PS.out _ S6.out).mono ?_
 rintro e w7 ⟨rfl, hb⟩
 have S7 := Lib.hid (S6.out.next hb)
 clear hb f0 f1 f2 f3 fl S6
 go_wp2_with fail
 go_ret
 exact ⟨rfl, S7.out.b⟩

set_option maxHeartbeats 4000000 in
theorem corners_0b (v : Fv) (f : Dd.Fd) (l s p : Int) (hp64 : -9223372036854775808 ≤ p ∧ p ≤ 9223372036854775807) (w : World) (hE : Env w) (hF : FRw w w.heap.size v f) (hv : Dd.vastF f = false) (h1 : ¬ (Dd.pointF f l s).2 = 0) (h2 : ¬ (Dd.cornerF f p).2.2 = 0) (h3 : Dd.ptsF f = 0) :
  Calls Tryz.prog 3 #[fval v f, .int .i64 l, .int .i64 s, .int .i64 p] w fun e w' => e = .returned (.bool true) ∧ Below w.heap.size w w' := by
 have va := fun W (h : Lf w v f W) (hr : FRw W W.heap.size v f) => vast_any v f W hr
 have hraw := (hF.below ((Below.refl w.heap.size w).alloc (Nat.le_refl _) (.cells #[.slice v.a1 f.st.length v.c1, .slice v.a2 f.li.length v.c2, .slice v.a3 f.pa.length v.c3, .slice v.a4 f.va.length v.c4] 27)) (Nat.le_refl _)).more ((Below.refl w.heap.size w).alloc (Nat.le_refl _) (.cells #[.slice v.a1 f.st.length v.c1, .slice v.a2 f.li.length v.c2, .slice v.a3 f.pa.length v.c3, .slice v.a4 f.va.length v.c4] 27)).size
 rw [hv] at va
 have S0 := Lib.hid (Lf.new hE (hF.small hv))
 have PO := fun a b W (h : Lf w v f W) => Point_any v f a b W h.rd
 have CO := fun q (hq : -9223372036854775808 ≤ q ∧ q ≤ 9223372036854775807) W (h : Lf w v f W) => Corner_any v f q hq W h.rd
 have ps := fun W (h : Lf w v f W) => Points_any v f W h.rd
 have SP := Lib.hid (fun W (h : Env W) => spoken_any W h)
 have p1 := PO l s
 have c2 := CO p hp64
 obtain ⟨P, hP⟩ : ∃ P, (Dd.pointF f l s).1 = P := ⟨_, rfl⟩
 obtain ⟨E1, hE1⟩ : ∃ E, (Dd.pointF f l s).2 = E := ⟨_, rfl⟩
 rw [hP, hE1] at p1
 have e1 : (E1 == 0) = false := by simpa [hE1] using h1
 obtain ⟨a2, ha2⟩ : ∃ a, (Dd.cornerF f p).1 = a := ⟨_, rfl⟩
 obtain ⟨b2, hb2⟩ : ∃ b, (Dd.cornerF f p).2.1 = b := ⟨_, rfl⟩
 obtain ⟨E2, hE2⟩ : ∃ E, (Dd.cornerF f p).2.2 = E := ⟨_, rfl⟩
 rw [ha2, hb2, hE2] at c2
 have e2 : (E2 == 0) = false := by simpa [hE2] using h2
 obtain ⟨T, hT⟩ : ∃ T, Dd.ptsF f = T := ⟨_, rfl⟩
 rw [hT] at ps h3
 simp only [fval_def] at va ps p1 c2 S0 ⊢
 have VA := Lib.hid va
 have PS := Lib.hid ps
 have P1 := Lib.hid p1
 have C2 := Lib.hid c2
 have d4 : (T == 0) = true := by rw [h3]; rfl
 have HRAW := Lib.hid hraw
 clear hraw va ps hF hv hE h1 h2 hP hT PO CO ha2 hb2 p1 c2 hp64 hE1 hE2 h3
 go_enter Tryz.func3, Tryz.ntmps3
 obtain ⟨f0, f1, f2, f3, fl⟩ := S0.out.cells
 go_wp2_with fail
 refine (VA.out _ S0.out HRAW.out).mono ?_
 rintro e w1 ⟨rfl, hb⟩
 have S1 := Lib.hid (S0.out.next hb)
 clear hb f0 f1 f2 f3 fl S0
 obtain ⟨f0, f1, f2, f3, fl⟩ := S1.out.cells
 go_wp2_with fail
 refine (P1.out _ S1.out).mono ?_
 rintro e w2 ⟨rfl, hb⟩
 have S2 := Lib.hid (S1.out.next hb)
 clear hb f0 f1 f2 f3 fl S1
 obtain ⟨f0, f1, f2, f3, fl⟩ := S2.out.cells
 go_wp2_with fail
 refine (C2.out _ S2.out).mono ?_
 rintro e w3 ⟨rfl, hb⟩
 have S3 := Lib.hid (S2.out.next hb)
 clear hb f0 f1 f2 f3 fl S2
 obtain ⟨f0, f1, f2, f3, fl⟩ := S3.out.cells
 go_wp2_with fail
 refine (SP.out _ S3.out.e).mono ?_
 rintro e w4 ⟨rfl, hb⟩
 have S4 := Lib.hid (S3.out.next hb)
 clear hb f0 f1 f2 f3 fl S3
 obtain ⟨f0, f1, f2, f3, fl⟩ := S4.out.cells
 go_wp2_with fail
 refine (PS.out _ S4.out).mono ?_
 rintro e w5 ⟨rfl, hb⟩
 have S5 := Lib.hid (S4.out.next hb)
 clear hb f0 f1 f2 f3 fl S4
 go_wp2_with fail
 go_ret
 exact ⟨rfl, S5.out.b⟩

set_option maxHeartbeats 4000000 in
theorem corners_0c (v : Fv) (f : Dd.Fd) (l s p : Int) (hp64 : -9223372036854775808 ≤ p ∧ p ≤ 9223372036854775807) (w : World) (hE : Env w) (hF : FRw w w.heap.size v f) (hv : Dd.vastF f = false) (h1 : ¬ (Dd.pointF f l s).2 = 0) (h2 : ¬ (Dd.cornerF f p).2.2 = 0) (h3 : ¬ Dd.ptsF f = 0) (h4 : p < 1) :
  Calls Tryz.prog 3 #[fval v f, .int .i64 l, .int .i64 s, .int .i64 p] w fun e w' => e = .returned (.bool true) ∧ Below w.heap.size w w' := by
 have va := fun W (h : Lf w v f W) (hr : FRw W W.heap.size v f) => vast_any v f W hr
 have hraw := (hF.below ((Below.refl w.heap.size w).alloc (Nat.le_refl _) (.cells #[.slice v.a1 f.st.length v.c1, .slice v.a2 f.li.length v.c2, .slice v.a3 f.pa.length v.c3, .slice v.a4 f.va.length v.c4] 27)) (Nat.le_refl _)).more ((Below.refl w.heap.size w).alloc (Nat.le_refl _) (.cells #[.slice v.a1 f.st.length v.c1, .slice v.a2 f.li.length v.c2, .slice v.a3 f.pa.length v.c3, .slice v.a4 f.va.length v.c4] 27)).size
 rw [hv] at va
 have S0 := Lib.hid (Lf.new hE (hF.small hv))
 have PO := fun a b W (h : Lf w v f W) => Point_any v f a b W h.rd
 have CO := fun q (hq : -9223372036854775808 ≤ q ∧ q ≤ 9223372036854775807) W (h : Lf w v f W) => Corner_any v f q hq W h.rd
 have ps := fun W (h : Lf w v f W) => Points_any v f W h.rd
 have SP := Lib.hid (fun W (h : Env W) => spoken_any W h)
 have p1 := PO l s
 have c2 := CO p hp64
 obtain ⟨P, hP⟩ : ∃ P, (Dd.pointF f l s).1 = P := ⟨_, rfl⟩
 obtain ⟨E1, hE1⟩ : ∃ E, (Dd.pointF f l s).2 = E := ⟨_, rfl⟩
 rw [hP, hE1] at p1
 have e1 : (E1 == 0) = false := by simpa [hE1] using h1
 obtain ⟨a2, ha2⟩ : ∃ a, (Dd.cornerF f p).1 = a := ⟨_, rfl⟩
 obtain ⟨b2, hb2⟩ : ∃ b, (Dd.cornerF f p).2.1 = b := ⟨_, rfl⟩
 obtain ⟨E2, hE2⟩ : ∃ E, (Dd.cornerF f p).2.2 = E := ⟨_, rfl⟩
 rw [ha2, hb2, hE2] at c2
 have e2 : (E2 == 0) = false := by simpa [hE2] using h2
 obtain ⟨T, hT⟩ : ∃ T, Dd.ptsF f = T := ⟨_, rfl⟩
 rw [hT] at ps h3
 simp only [fval_def] at va ps p1 c2 S0 ⊢
 have VA := Lib.hid va
 have PS := Lib.hid ps
 have P1 := Lib.hid p1
 have C2 := Lib.hid c2
 have d4 : (T == 0) = false := beq_eq_false_iff_ne.2 h3
 have d5 : decide (p ≥ 1) = false := decide_eq_false (by omega)
 have HRAW := Lib.hid hraw
 clear hraw va ps hF hv hE h1 h2 hP hT PO CO ha2 hb2 p1 c2 hp64 hE1 hE2 h3 h4
 go_enter Tryz.func3, Tryz.ntmps3
 obtain ⟨f0, f1, f2, f3, fl⟩ := S0.out.cells
 go_wp2_with fail
 refine (VA.out _ S0.out HRAW.out).mono ?_
 rintro e w1 ⟨rfl, hb⟩
 have S1 := Lib.hid (S0.out.next hb)
 clear hb f0 f1 f2 f3 fl S0
 obtain ⟨f0, f1, f2, f3, fl⟩ := S1.out.cells
 go_wp2_with fail
 refine (P1.out _ S1.out).mono ?_
 rintro e w2 ⟨rfl, hb⟩
 have S2 := Lib.hid (S1.out.next hb)
 clear hb f0 f1 f2 f3 fl S1
 obtain ⟨f0, f1, f2, f3, fl⟩ := S2.out.cells
 go_wp2_with fail
 refine (C2.out _ S2.out).mono ?_
 rintro e w3 ⟨rfl, hb⟩
 have S3 := Lib.hid (S2.out.next hb)
 clear hb f0 f1 f2 f3 fl S2
 obtain ⟨f0, f1, f2, f3, fl⟩ := S3.out.cells
 go_wp2_with fail
 refine (SP.out _ S3.out.e).mono ?_
 rintro e w4 ⟨rfl, hb⟩
 have S4 := Lib.hid (S3.out.next hb)
 clear hb f0 f1 f2 f3 fl S3
 obtain ⟨f0, f1, f2, f3, fl⟩ := S4.out.cells
 go_wp2_with fail
 refine (PS.out _ S4.out).mono ?_
 rintro e w5 ⟨rfl, hb⟩
 have S5 := Lib.hid (S4.out.next hb)
 clear hb f0 f1 f2 f3 fl S4
 go_wp2_with fail
 go_ret
 exact ⟨rfl, S5.out.b⟩

set_option maxHeartbeats 4000000 in
theorem corners_0d (v : Fv) (f : Dd.Fd) (l s p : Int) (hp64 : -9223372036854775808 ≤ p ∧ p ≤ 9223372036854775807) (w : World) (hE : Env w) (hF : FRw w w.heap.size v f) (hv : Dd.vastF f = false) (h1 : ¬ (Dd.pointF f l s).2 = 0) (h2 : ¬ (Dd.cornerF f p).2.2 = 0) (h3 : ¬ Dd.ptsF f = 0) (h4 : ¬ p < 1) (h5 : Dd.ptsF f ≤ p) :
  Calls Tryz.prog 3 #[fval v f, .int .i64 l, .int .i64 s, .int .i64 p] w fun e w' => e = .returned (.bool true) ∧ Below w.heap.size w w' := by
 have va := fun W (h : Lf w v f W) (hr : FRw W W.heap.size v f) => vast_any v f W hr
 have hraw := (hF.below ((Below.refl w.heap.size w).alloc (Nat.le_refl _) (.cells #[.slice v.a1 f.st.length v.c1, .slice v.a2 f.li.length v.c2, .slice v.a3 f.pa.length v.c3, .slice v.a4 f.va.length v.c4] 27)) (Nat.le_refl _)).more ((Below.refl w.heap.size w).alloc (Nat.le_refl _) (.cells #[.slice v.a1 f.st.length v.c1, .slice v.a2 f.li.length v.c2, .slice v.a3 f.pa.length v.c3, .slice v.a4 f.va.length v.c4] 27)).size
 rw [hv] at va
 have S0 := Lib.hid (Lf.new hE (hF.small hv))
 have PO := fun a b W (h : Lf w v f W) => Point_any v f a b W h.rd
 have CO := fun q (hq : -9223372036854775808 ≤ q ∧ q ≤ 9223372036854775807) W (h : Lf w v f W) => Corner_any v f q hq W h.rd
 have ps := fun W (h : Lf w v f W) => Points_any v f W h.rd
 have SP := Lib.hid (fun W (h : Env W) => spoken_any W h)
 have p1 := PO l s
 have c2 := CO p hp64
 obtain ⟨P, hP⟩ : ∃ P, (Dd.pointF f l s).1 = P := ⟨_, rfl⟩
 obtain ⟨E1, hE1⟩ : ∃ E, (Dd.pointF f l s).2 = E := ⟨_, rfl⟩
 rw [hP, hE1] at p1
 have e1 : (E1 == 0) = false := by simpa [hE1] using h1
 obtain ⟨a2, ha2⟩ : ∃ a, (Dd.cornerF f p).1 = a := ⟨_, rfl⟩
 obtain ⟨b2, hb2⟩ : ∃ b, (Dd.cornerF f p).2.1 = b := ⟨_, rfl⟩
 obtain ⟨E2, hE2⟩ : ∃ E, (Dd.cornerF f p).2.2 = E := ⟨_, rfl⟩
 rw [ha2, hb2, hE2] at c2
 have e2 : (E2 == 0) = false := by simpa [hE2] using h2
 obtain ⟨T, hT⟩ : ∃ T, Dd.ptsF f = T := ⟨_, rfl⟩
 rw [hT] at ps h3 h5
 simp only [fval_def] at va ps p1 c2 S0 ⊢
 have VA := Lib.hid va
 have PS := Lib.hid ps
 have P1 := Lib.hid p1
 have C2 := Lib.hid c2
 have d4 : (T == 0) = false := beq_eq_false_iff_ne.2 h3
 have d5 : decide (p ≥ 1) = true := decide_eq_true (by omega)
 have d6 : decide (p < T) = false := decide_eq_false (by omega)
 have HRAW := Lib.hid hraw
 clear hraw va ps hF hv hE h1 h2 hP hT PO CO ha2 hb2 p1 c2 hp64 hE1 hE2 h3 h4 h5
 go_enter Tryz.func3, Tryz.ntmps3
 obtain ⟨f0, f1, f2, f3, fl⟩ := S0.out.cells
 go_wp2_with fail
 refine (VA.out _ S0.out HRAW.out).mono ?_
 rintro e w1 ⟨rfl, hb⟩
 have S1 := Lib.hid (S0.out.next hb)
 clear hb f0 f1 f2 f3 fl S0
 obtain ⟨f0, f1, f2, f3, fl⟩ := S1.out.cells
 go_wp2_with fail
 refine (P1.out _ S1.out).mono ?_
 rintro e w2 ⟨rfl, hb⟩
 have S2 := Lib.hid (S1.out.next hb)
 clear hb f0 f1 f2 f3 fl S1
 obtain ⟨f0, f1, f2, f3, fl⟩ := S2.out.cells
 go_wp2_with fail
 refine (C2.out _ S2.out).mono ?_
 rintro e w3 ⟨rfl, hb⟩
 have S3 := Lib.hid (S2.out.next hb)
 clear hb f0 f1 f2 f3 fl S2
 obtain ⟨f0, f1, f2, f3, fl⟩ := S3.out.cells
 go_wp2_with fail
 refine (SP.out _ S3.out.e).mono ?_
 rintro e w4 ⟨rfl, hb⟩
 have S4 := Lib.hid (S3.out.next hb)
 clear hb f0 f1 f2 f3 fl S3
 obtain ⟨f0, f1, f2, f3, fl⟩ := S4.out.cells
 go_wp2_with fail
 refine (PS.out _ S4.out).mono ?_
 rintro e w5 ⟨rfl, hb⟩
 have S5 := Lib.hid (S4.out.next hb)
 clear hb f0 f1 f2 f3 fl S4
 obtain ⟨f0, f1, f2, f3, fl⟩ := S5.out.cells
 go_wp2_with fail
 refine (PS.out _ S5.out).mono ?_
 rintro e w6 ⟨rfl, hb⟩
 have S6 := Lib.hid (S5.out.next hb)
 clear hb f0 f1 f2 f3 fl S5
 go_wp2_with fail
 go_ret
 exact ⟨rfl, S6.out.b⟩

set_option maxHeartbeats 4000000 in
theorem corners_1a (v : Fv) (f : Dd.Fd) (l s p : Int) (hp64 : -9223372036854775808 ≤ p ∧ p ≤ 9223372036854775807) (w : World) (hE : Env w) (hF : FRw w w.heap.size v f) (hv : Dd.vastF f = false) (h1 : (Dd.pointF f l s).2 = 0) (h2 : (Dd.cornerF f p).2.2 = 0) :
  Calls Tryz.prog 3 #[fval v f, .int .i64 l, .int .i64 s, .int .i64 p] w fun e w' => e = .returned (.bool true) ∧ Below w.heap.size w w' := by
 have va := fun W (h : Lf w v f W) (hr : FRw W W.heap.size v f) => vast_any v f W hr
 have hraw := (hF.below ((Below.refl w.heap.size w).alloc (Nat.le_refl _) (.cells #[.slice v.a1 f.st.length v.c1, .slice v.a2 f.li.length v.c2, .slice v.a3 f.pa.length v.c3, .slice v.a4 f.va.length v.c4] 27)) (Nat.le_refl _)).more ((Below.refl w.heap.size w).alloc (Nat.le_refl _) (.cells #[.slice v.a1 f.st.length v.c1, .slice v.a2 f.li.length v.c2, .slice v.a3 f.pa.length v.c3, .slice v.a4 f.va.length v.c4] 27)).size
 rw [hv] at va
 have S0 := Lib.hid (Lf.new hE (hF.small hv))
 have PO := fun a b W (h : Lf w v f W) => Point_any v f a b W h.rd
 have CO := fun q (hq : -9223372036854775808 ≤ q ∧ q ≤ 9223372036854775807) W (h : Lf w v f W) => Corner_any v f q hq W h.rd
 have ps := fun W (h : Lf w v f W) => Points_any v f W h.rd
 have SP := Lib.hid (fun W (h : Env W) => spoken_any W h)
 have p1 := PO l s
 have c2 := CO p hp64
 obtain ⟨P, hP⟩ : ∃ P, (Dd.pointF f l s).1 = P := ⟨_, rfl⟩
 obtain ⟨k1, k2, k3⟩ := Dd.point_corner (f := f) (l := l) (s := s) (p := P) (by rw [← hP, ← h1])
 have hpm := Dd.pts_small hF (hF.small hv)
 have c1 := CO P (by omega)
 rw [k1] at c1
 rw [hP, h1] at p1
 obtain ⟨a2, ha2⟩ : ∃ a, (Dd.cornerF f p).1 = a := ⟨_, rfl⟩
 obtain ⟨b2, hb2⟩ : ∃ b, (Dd.cornerF f p).2.1 = b := ⟨_, rfl⟩
 have hcr : Dd.cornerF f p = (a2, b2, 0) := by rw [← ha2, ← hb2, ← h2]
 have hpt := Dd.corner_point hcr
 obtain ⟨hf0, q1, q2, -⟩ := Dd.corner_ok hcr
 have p2 := PO a2 b2
 rw [hpt] at p2
 rw [hcr] at c2
 have hpe : Dd.ptsF f = Dd.ptsN f := by unfold Dd.ptsF; rw [if_pos hf0]
 obtain ⟨T, hT⟩ : ∃ T, Dd.ptsF f = T := ⟨_, rfl⟩
 rw [hT] at ps k3 hpe
 simp only [fval_def] at va ps p1 c2 c1 p2 S0 ⊢
 have VA := Lib.hid va
 have PS := Lib.hid ps
 have P1 := Lib.hid p1
 have C2 := Lib.hid c2
 have C1 := Lib.hid c1
 have P2 := Lib.hid p2
 have d1 : decide (P < 1) = false := decide_eq_false (by omega)
 have d2 : decide (P ≥ T) = false := decide_eq_false (by omega)
 have d3 : (l == l) = true := beq_self_eq_true _
 have d4 : (T == 0) = false := beq_eq_false_iff_ne.2 (by omega)
 have d5 : decide (p ≥ 1) = true := decide_eq_true (by omega)
 have d6 : decide (p < T) = true := decide_eq_true (by omega)
 have HRAW := Lib.hid hraw
 clear hraw va ps hF hv hE h1 h2 hP hT PO CO ha2 hb2 p1 c2 c1 p2 hp64 k1 k2 k3 hpm hcr hpt hf0 q1 q2 hpe
 go_enter Tryz.func3, Tryz.ntmps3
 obtain ⟨f0, f1, f2, f3, fl⟩ := S0.out.cells
 go_wp2_with fail
 refine (VA.out _ S0.out HRAW.out).mono ?_
 rintro e w1 ⟨rfl, hb⟩
 have S1 := Lib.hid (S0.out.next hb)
 clear hb f0 f1 f2 f3 fl S0
 obtain ⟨f0, f1, f2, f3, fl⟩ := S1.out.cells
 go_wp2_with fail
 refine (P1.out _ S1.out).mono ?_
 rintro e w2 ⟨rfl, hb⟩
 have S2 := Lib.hid (S1.out.next hb)
 clear hb f0 f1 f2 f3 fl S1
 obtain ⟨f0, f1, f2, f3, fl⟩ := S2.out.cells
 go_wp2_with fail
 refine (C1.out _ S2.out).mono ?_
 rintro e w3 ⟨rfl, hb⟩
 have S3 := Lib.hid (S2.out.next hb)
 clear hb f0 f1 f2 f3 fl S2
 obtain ⟨f0, f1, f2, f3, fl⟩ := S3.out.cells
 go_wp2_with fail
 refine (PS.out _ S3.out).mono ?_
 rintro e w4 ⟨rfl, hb⟩
 have S4 := Lib.hid (S3.out.next hb)
 clear hb f0 f1 f2 f3 fl S3
 obtain ⟨f0, f1, f2, f3, fl⟩ := S4.out.cells
 go_wp2_with fail
 refine (C2.out _ S4.out).mono ?_
 rintro e w5 ⟨rfl, hb⟩
 have S5 := Lib.hid (S4.out.next hb)
 clear hb f0 f1 f2 f3 fl S4
 obtain ⟨f0, f1, f2, f3, fl⟩ := S5.out.cells
 go_wp2_with fail
 refine (P2.out _ S5.out).mono ?_
 rintro e w6 ⟨rfl, hb⟩
 have S6 := Lib.hid (S5.out.next hb)
 clear hb f0 f1 f2 f3 fl S5
 obtain ⟨f0, f1, f2, f3, fl⟩ := S6.out.cells
 go_wp2_with fail
 refine (SP.out _ S6.out.e).mono ?_
 rintro e w7 ⟨rfl, hb⟩
 have S7 := Lib.hid (S6.out.next hb)
 clear hb f0 f1 f2 f3 fl S6
 obtain ⟨f0, f1, f2, f3, fl⟩ := S7.out.cells
 go_wp2_with fail
 refine (PS.out _ S7.out).mono ?_
 rintro e w8 ⟨rfl, hb⟩
 have S8 := Lib.hid (S7.out.next hb)
 clear hb f0 f1 f2 f3 fl S7
 obtain ⟨f0, f1, f2, f3, fl⟩ := S8.out.cells
 go_wp2_with fail
 refine (PS.out _ S8.out).mono ?_
 rintro e w9 ⟨rfl, hb⟩
 have S9 := Lib.hid (S8.out.next hb)
 clear hb f0 f1 f2 f3 fl S8
 go_wp2_with fail
 go_ret
 exact ⟨rfl, S9.out.b⟩

set_option maxHeartbeats 4000000 in
theorem corners_1b (v : Fv) (f : Dd.Fd) (l s p : Int) (hp64 : -9223372036854775808 ≤ p ∧ p ≤ 9223372036854775807) (w : World) (hE : Env w) (hF : FRw w w.heap.size v f) (hv : Dd.vastF f = false) (h1 : (Dd.pointF f l s).2 = 0) (h2 : ¬ (Dd.cornerF f p).2.2 = 0) (h3 : Dd.ptsF f = 0) :
  Calls Tryz.prog 3 #[fval v f, .int .i64 l, .int .i64 s, .int .i64 p] w fun e w' => e = .returned (.bool true) ∧ Below w.heap.size w w' := by
 have va := fun W (h : Lf w v f W) (hr : FRw W W.heap.size v f) => vast_any v f W hr
 have hraw := (hF.below ((Below.refl w.heap.size w).alloc (Nat.le_refl _) (.cells #[.slice v.a1 f.st.length v.c1, .slice v.a2 f.li.length v.c2, .slice v.a3 f.pa.length v.c3, .slice v.a4 f.va.length v.c4] 27)) (Nat.le_refl _)).more ((Below.refl w.heap.size w).alloc (Nat.le_refl _) (.cells #[.slice v.a1 f.st.length v.c1, .slice v.a2 f.li.length v.c2, .slice v.a3 f.pa.length v.c3, .slice v.a4 f.va.length v.c4] 27)).size
 rw [hv] at va
 have S0 := Lib.hid (Lf.new hE (hF.small hv))
 have PO := fun a b W (h : Lf w v f W) => Point_any v f a b W h.rd
 have CO := fun q (hq : -9223372036854775808 ≤ q ∧ q ≤ 9223372036854775807) W (h : Lf w v f W) => Corner_any v f q hq W h.rd
 have ps := fun W (h : Lf w v f W) => Points_any v f W h.rd
 have SP := Lib.hid (fun W (h : Env W) => spoken_any W h)
 have p1 := PO l s
 have c2 := CO p hp64
 obtain ⟨P, hP⟩ : ∃ P, (Dd.pointF f l s).1 = P := ⟨_, rfl⟩
 obtain ⟨k1, k2, k3⟩ := Dd.point_corner (f := f) (l := l) (s := s) (p := P) (by rw [← hP, ← h1])
 have hpm := Dd.pts_small hF (hF.small hv)
 have c1 := CO P (by omega)
 rw [k1] at c1
 rw [hP, h1] at p1
 obtain ⟨a2, ha2⟩ : ∃ a, (Dd.cornerF f p).1 = a := ⟨_, rfl⟩
 obtain ⟨b2, hb2⟩ : ∃ b, (Dd.cornerF f p).2.1 = b := ⟨_, rfl⟩
 obtain ⟨E2, hE2⟩ : ∃ E, (Dd.cornerF f p).2.2 = E := ⟨_, rfl⟩
 rw [ha2, hb2, hE2] at c2
 have e2 : (E2 == 0) = false := by simpa [hE2] using h2
 obtain ⟨T, hT⟩ : ∃ T, Dd.ptsF f = T := ⟨_, rfl⟩
 rw [hT] at ps k3 h3
 simp only [fval_def] at va ps p1 c2 c1 S0 ⊢
 have VA := Lib.hid va
 have PS := Lib.hid ps
 have P1 := Lib.hid p1
 have C2 := Lib.hid c2
 have C1 := Lib.hid c1
 have d1 : decide (P < 1) = false := decide_eq_false (by omega)
 have d2 : decide (P ≥ T) = false := decide_eq_false (by omega)
 have d3 : (l == l) = true := beq_self_eq_true _
 have d4 : (T == 0) = true := by rw [h3]; rfl
 have HRAW := Lib.hid hraw
 clear hraw va ps hF hv hE h1 h2 hP hT PO CO ha2 hb2 p1 c2 c1 hp64 k1 k2 k3 hpm hE2 h3
 go_enter Tryz.func3, Tryz.ntmps3
 obtain ⟨f0, f1, f2, f3, fl⟩ := S0.out.cells
 go_wp2_with fail
 refine (VA.out _ S0.out HRAW.out).mono ?_
 rintro e w1 ⟨rfl, hb⟩
 have S1 := Lib.hid (S0.out.next hb)
 clear hb f0 f1 f2 f3 fl S0
 obtain ⟨f0, f1, f2, f3, fl⟩ := S1.out.cells
 go_wp2_with fail
 refine (P1.out _ S1.out).mono ?_
 rintro e w2 ⟨rfl, hb⟩
 have S2 := Lib.hid (S1.out.next hb)
 clear hb f0 f1 f2 f3 fl S1
 obtain ⟨f0, f1, f2, f3, fl⟩ := S2.out.cells
 go_wp2_with fail
 refine (C1.out _ S2.out).mono ?_
 rintro e w3 ⟨rfl, hb⟩
 have S3 := Lib.hid (S2.out.next hb)
 clear hb f0 f1 f2 f3 fl S2
 obtain ⟨f0, f1, f2, f3, fl⟩ := S3.out.cells
 go_wp2_with fail
 refine (PS.out _ S3.out).mono ?_
 rintro e w4 ⟨rfl, hb⟩
 have S4 := Lib.hid (S3.out.next hb)
 clear hb f0 f1 f2 f3 fl S3
 obtain ⟨f0, f1, f2, f3, fl⟩ := S4.out.cells
 go_wp2_with fail
 refine (C2.out _ S4.out).mono ?_
 rintro e w5 ⟨rfl, hb⟩
 have S5 := Lib.hid (S4.out.next hb)
 clear hb f0 f1 f2 f3 fl S4
 obtain ⟨f0, f1, f2, f3, fl⟩ := S5.out.cells
 go_wp2_with fail
 refine (SP.out _ S5.out.e).mono ?_
 rintro e w6 ⟨rfl, hb⟩
 have S6 := Lib.hid (S5.out.next hb)
 clear hb f0 f1 f2 f3 fl S5
 obtain ⟨f0, f1, f2, f3, fl⟩ := S6.out.cells
 go_wp2_with fail
 refine (PS.out _ S6.out).mono ?_
 rintro e w7 ⟨rfl, hb⟩
 have S7 := Lib.hid (S6.out.next hb)
 clear hb f0 f1 f2 f3 fl S6
 go_wp2_with fail
 go_ret
 exact ⟨rfl, S7.out.b⟩

set_option maxHeartbeats 4000000 in
theorem corners_1c (v : Fv) (f : Dd.Fd) (l s p : Int) (hp64 : -9223372036854775808 ≤ p ∧ p ≤ 9223372036854775807) (w : World) (hE : Env w) (hF : FRw w w.heap.size v f) (hv : Dd.vastF f = false) (h1 : (Dd.pointF f l s).2 = 0) (h2 : ¬ (Dd.cornerF f p).2.2 = 0) (h3 : ¬ Dd.ptsF f = 0) (h4 : p < 1) :
  Calls Tryz.prog 3 #[fval v f, .int .i64 l, .int .i64 s, .int .i64 p] w fun e w' => e = .returned (.bool true) ∧ Below w.heap.size w w' := by
 have va := fun W (h : Lf w v f W) (hr : FRw W W.heap.size v f) => vast_any v f W hr
 have hraw := (hF.below ((Below.refl w.heap.size w).alloc (Nat.le_refl _) (.cells #[.slice v.a1 f.st.length v.c1, .slice v.a2 f.li.length v.c2, .slice v.a3 f.pa.length v.c3, .slice v.a4 f.va.length v.c4] 27)) (Nat.le_refl _)).more ((Below.refl w.heap.size w).alloc (Nat.le_refl _) (.cells #[.slice v.a1 f.st.length v.c1, .slice v.a2 f.li.length v.c2, .slice v.a3 f.pa.length v.c3, .slice v.a4 f.va.length v.c4] 27)).size
 rw [hv] at va
 have S0 := Lib.hid (Lf.new hE (hF.small hv))
 have PO := fun a b W (h : Lf w v f W) => Point_any v f a b W h.rd
 have CO := fun q (hq : -9223372036854775808 ≤ q ∧ q ≤ 9223372036854775807) W (h : Lf w v f W) => Corner_any v f q hq W h.rd
 have ps := fun W (h : Lf w v f W) => Points_any v f W h.rd
 have SP := Lib.hid (fun W (h : Env W) => spoken_any W h)
 have p1 := PO l s
 have c2 := CO p hp64
 obtain ⟨P, hP⟩ : ∃ P, (Dd.pointF f l s).1 = P := ⟨_, rfl⟩
 obtain ⟨k1, k2, k3⟩ := Dd.point_corner (f := f) (l := l) (s := s) (p := P) (by rw [← hP, ← h1])
 have hpm := Dd.pts_small hF (hF.small hv)
 have c1 := CO P (by omega)
 rw [k1] at c1
 rw [hP, h1] at p1
 obtain ⟨a2, ha2⟩ : ∃ a, (Dd.cornerF f p).1 = a := ⟨_, rfl⟩
 obtain ⟨b2, hb2⟩ : ∃ b, (Dd.cornerF f p).2.1 = b := ⟨_, rfl⟩
 obtain ⟨E2, hE2⟩ : ∃ E, (Dd.cornerF f p).2.2 = E := ⟨_, rfl⟩
 rw [ha2, hb2, hE2] at c2
 have e2 : (E2 == 0) = false := by simpa [hE2] using h2
 obtain ⟨T, hT⟩ : ∃ T, Dd.ptsF f = T := ⟨_, rfl⟩
 rw [hT] at ps k3 h3
 simp only [fval_def] at va ps p1 c2 c1 S0 ⊢
 have VA := Lib.hid va
 have PS := Lib.hid ps
 have P1 := Lib.hid p1
 have C2 := Lib.hid c2
 have C1 := Lib.hid c1
 have d1 : decide (P < 1) = false := decide_eq_false (by omega)
 have d2 : decide (P ≥ T) = false := decide_eq_false (by omega)
 have d3 : (l == l) = true := beq_self_eq_true _
 have d4 : (T == 0) = false := beq_eq_false_iff_ne.2 h3
 have d5 : decide (p ≥ 1) = false := decide_eq_false (by omega)
 have HRAW := Lib.hid hraw
 clear hraw va ps hF hv hE h1 h2 hP hT PO CO ha2 hb2 p1 c2 c1 hp64 k1 k2 k3 hpm hE2 h3 h4
 go_enter Tryz.func3, Tryz.ntmps3
 obtain ⟨f0, f1, f2, f3, fl⟩ := S0.out.cells
 go_wp2_with fail
 refine (VA.out _ S0.out HRAW.out).mono ?_
 rintro e w1 ⟨rfl, hb⟩
 have S1 := Lib.hid (S0.out.next hb)
 clear hb f0 f1 f2 f3 fl S0
 obtain ⟨f0, f1, f2, f3, fl⟩ := S1.out.cells
 go_wp2_with fail
 refine (P1.out _ S1.out).mono ?_
 rintro e w2 ⟨rfl, hb⟩
 have S2 := Lib.hid (S1.out.next hb)
 clear hb f0 f1 f2 f3 fl S1
 obtain ⟨f0, f1, f2, f3, fl⟩ := S2.out.cells
 go_wp2_with fail
 refine (C1.out _ S2.out).mono ?_
 rintro e w3 ⟨rfl, hb⟩
 have S3 := Lib.hid (S2.out.next hb)
 clear hb f0 f1 f2 f3 fl S2
 obtain ⟨f0, f1, f2, f3, fl⟩ := S3.out.cells
 go_wp2_with fail
 refine (PS.out _ S3.out).mono ?_
 rintro e w4 ⟨rfl, hb⟩
 have S4 := Lib.hid (S3.out.next hb)
 clear hb f0 f1 f2 f3 fl S3
 obtain ⟨f0, f1, f2, f3, fl⟩ := S4.out.cells
 go_wp2_with fail
 refine (C2.out _ S4.out).mono ?_
 rintro e w5 ⟨rfl, hb⟩
 have S5 := Lib.hid (S4.out.next hb)
 clear hb f0 f1 f2 f3 fl S4
 obtain ⟨f0, f1, f2, f3, fl⟩ := S5.out.cells
 go_wp2_with fail
 refine (SP.out _ S5.out.e).mono ?_
 rintro e w6 ⟨rfl, hb⟩
 have S6 := Lib.hid (S5.out.next hb)
 clear hb f0 f1 f2 f3 fl S5
 obtain ⟨f0, f1, f2, f3, fl⟩ := S6.out.cells
 go_wp2_with fail
 refine (PS.out _ S6.out).mono ?_
 rintro e w7 ⟨rfl, hb⟩
 have S7 := Lib.hid (S6.out.next hb)
 clear hb f0 f1 f2 f3 fl S6
 go_wp2_with fail
 go_ret
 exact ⟨rfl, S7.out.b⟩

set_option maxHeartbeats 4000000 in
theorem corners_1d (v : Fv) (f : Dd.Fd) (l s p : Int) (hp64 : -9223372036854775808 ≤ p ∧ p ≤ 9223372036854775807) (w : World) (hE : Env w) (hF : FRw w w.heap.size v f) (hv : Dd.vastF f = false) (h1 : (Dd.pointF f l s).2 = 0) (h2 : ¬ (Dd.cornerF f p).2.2 = 0) (h3 : ¬ Dd.ptsF f = 0) (h4 : ¬ p < 1) (h5 : Dd.ptsF f ≤ p) :
  Calls Tryz.prog 3 #[fval v f, .int .i64 l, .int .i64 s, .int .i64 p] w fun e w' => e = .returned (.bool true) ∧ Below w.heap.size w w' := by
 have va := fun W (h : Lf w v f W) (hr : FRw W W.heap.size v f) => vast_any v f W hr
 have hraw := (hF.below ((Below.refl w.heap.size w).alloc (Nat.le_refl _) (.cells #[.slice v.a1 f.st.length v.c1, .slice v.a2 f.li.length v.c2, .slice v.a3 f.pa.length v.c3, .slice v.a4 f.va.length v.c4] 27)) (Nat.le_refl _)).more ((Below.refl w.heap.size w).alloc (Nat.le_refl _) (.cells #[.slice v.a1 f.st.length v.c1, .slice v.a2 f.li.length v.c2, .slice v.a3 f.pa.length v.c3, .slice v.a4 f.va.length v.c4] 27)).size
 rw [hv] at va
 have S0 := Lib.hid (Lf.new hE (hF.small hv))
 have PO := fun a b W (h : Lf w v f W) => Point_any v f a b W h.rd
 have CO := fun q (hq : -9223372036854775808 ≤ q ∧ q ≤ 9223372036854775807) W (h : Lf w v f W) => Corner_any v f q hq W h.rd
 have ps := fun W (h : Lf w v f W) => Points_any v f W h.rd
 have SP := Lib.hid (fun W (h : Env W) => spoken_any W h)
 have p1 := PO l s
 have c2 := CO p hp64
 obtain ⟨P, hP⟩ : ∃ P, (Dd.pointF f l s).1 = P := ⟨_, rfl⟩
 obtain ⟨k1, k2, k3⟩ := Dd.point_corner (f := f) (l := l) (s := s) (p := P) (by rw [← hP, ← h1])
 have hpm := Dd.pts_small hF (hF.small hv)
 have c1 := CO P (by omega)
 rw [k1] at c1
 rw [hP, h1] at p1
 obtain ⟨a2, ha2⟩ : ∃ a, (Dd.cornerF f p).1 = a := ⟨_, rfl⟩
 obtain ⟨b2, hb2⟩ : ∃ b, (Dd.cornerF f p).2.1 = b := ⟨_, rfl⟩
 obtain ⟨E2, hE2⟩ : ∃ E, (Dd.cornerF f p).2.2 = E := ⟨_, rfl⟩
 rw [ha2, hb2, hE2] at c2
 have e2 : (E2 == 0) = false := by simpa [hE2] using h2
 obtain ⟨T, hT⟩ : ∃ T, Dd.ptsF f = T := ⟨_, rfl⟩
 rw [hT] at ps k3 h3 h5
 simp only [fval_def] at va ps p1 c2 c1 S0 ⊢
 have VA := Lib.hid va
 have PS := Lib.hid ps
 have P1 := Lib.hid p1
 have C2 := Lib.hid c2
 have C1 := Lib.hid c1
 have d1 : decide (P < 1) = false := decide_eq_false (by omega)
 have d2 : decide (P ≥ T) = false := decide_eq_false (by omega)
 have d3 : (l == l) = true := beq_self_eq_true _
 have d4 : (T == 0) = false := beq_eq_false_iff_ne.2 h3
 have d5 : decide (p ≥ 1) = true := decide_eq_true (by omega)
 have d6 : decide (p < T) = false := decide_eq_false (by omega)
 have HRAW := Lib.hid hraw
 clear hraw va ps hF hv hE h1 h2 hP hT PO CO ha2 hb2 p1 c2 c1 hp64 k1 k2 k3 hpm hE2 h3 h4 h5
 go_enter Tryz.func3, Tryz.ntmps3
 obtain ⟨f0, f1, f2, f3, fl⟩ := S0.out.cells
 go_wp2_with fail
 refine (VA.out _ S0.out HRAW.out).mono ?_
 rintro e w1 ⟨rfl, hb⟩
 have S1 := Lib.hid (S0.out.next hb)
 clear hb f0 f1 f2 f3 fl S0
 obtain ⟨f0, f1, f2, f3, fl⟩ := S1.out.cells
 go_wp2_with fail
 refine (P1.out _ S1.out).mono ?_
 rintro e w2 ⟨rfl, hb⟩
 have S2 := Lib.hid (S1.out.next hb)
 clear hb f0 f1 f2 f3 fl S1
 obtain ⟨f0, f1, f2, f3, fl⟩ := S2.out.cells
 go_wp2_with fail
 refine (C1.out _ S2.out).mono ?_
 rintro e w3 ⟨rfl, hb⟩
 have S3 := Lib.hid (S2.out.next hb)
 clear hb f0 f1 f2 f3 fl S2
 obtain ⟨f0, f1, f2, f3, fl⟩ := S3.out.cells
 go_wp2_with fail
 refine (PS.out _ S3.out).mono ?_
 rintro e w4 ⟨rfl, hb⟩
 have S4 := Lib.hid (S3.out.next hb)
 clear hb f0 f1 f2 f3 fl S3
 obtain ⟨f0, f1, f2, f3, fl⟩ := S4.out.cells
 go_wp2_with fail
 refine (C2.out _ S4.out).mono ?_
 rintro e w5 ⟨rfl, hb⟩
 have S5 := Lib.hid (S4.out.next hb)
 clear hb f0 f1 f2 f3 fl S4
 obtain ⟨f0, f1, f2, f3, fl⟩ := S5.out.cells
 go_wp2_with fail
 refine (SP.out _ S5.out.e).mono ?_
 rintro e w6 ⟨rfl, hb⟩
 have S6 := Lib.hid (S5.out.next hb)
 clear hb f0 f1 f2 f3 fl S5
 obtain ⟨f0, f1, f2, f3, fl⟩ := S6.out.cells
 go_wp2_with fail
 refine (PS.out _ S6.out).mono ?_
 rintro e w7 ⟨rfl, hb⟩
 have S7 := Lib.hid (S6.out.next hb)
 clear hb f0 f1 f2 f3 fl S6
 obtain ⟨f0, f1, f2, f3, fl⟩ := S7.out.cells
 go_wp2_with fail
 refine (PS.out _ S7.out).mono ?_
 rintro e w8 ⟨rfl, hb⟩
 have S8 := Lib.hid (S7.out.next hb)
 clear hb f0 f1 f2 f3 fl S7
 go_wp2_with fail
 go_ret
 exact ⟨rfl, S8.out.b⟩

set_option maxHeartbeats 4000000 in
theorem corners_vast (v : Fv) (f : Dd.Fd) (l s p : Int) (hp64 : -9223372036854775808 ≤ p ∧ p ≤ 9223372036854775807) (w : World) (hE : Env w) (hF : FRw w w.heap.size v f) (hv : Dd.vastF f = true) :
  Calls Tryz.prog 3 #[fval v f, .int .i64 l, .int .i64 s, .int .i64 p] w fun e w' => e = .returned (.bool true) ∧ Below w.heap.size w w' := by
 have va := fun W (h : Lv w v f W) => vast_any v f W h.r
 rw [hv] at va
 have SP := Lib.hid (fun W (h : Env W) => spoken_any W h)
 have S0 := Lib.hid (Lv.new hE hF)
 simp only [fval_def] at va S0 ⊢
 have VA := Lib.hid va
 clear hF hv hE va
 go_enter Tryz.func3, Tryz.ntmps3
 go_wp2_with fail
 refine (VA.out _ S0.out).mono ?_
 rintro e w1 ⟨rfl, hb⟩
 have S1 := Lib.hid (S0.out.next hb)
 clear hb
 go_wp2_with fail
 refine (SP.out _ S1.out.e).mono ?_
 rintro e w2 ⟨rfl, hb⟩
 have S2 := Lib.hid (S1.out.next hb)
 clear hb
 go_wp2_with fail
 go_ret
 exact ⟨rfl, S2.out.b⟩

theorem deedCorners_any (v : Fv) (f : Dd.Fd) (l s p : Int) (hp64 : -9223372036854775808 ≤ p ∧ p ≤ 9223372036854775807) (w : World) (hE : Env w) (hF : FRw w w.heap.size v f) :
  Calls Tryz.prog 3 #[fval v f, .int .i64 l, .int .i64 s, .int .i64 p] w fun e w' => e = .returned (.bool true) ∧ Below w.heap.size w w' := by
 rcases hv : Dd.vastF f with _ | _
 ·by_cases h1 : (Dd.pointF f l s).2 = 0
  ·by_cases h2 : (Dd.cornerF f p).2.2 = 0
   ·exact corners_1a v f l s p hp64 w hE hF hv h1 h2
   by_cases h3 : Dd.ptsF f = 0
   ·exact corners_1b v f l s p hp64 w hE hF hv h1 h2 h3
   by_cases h4 : p < 1
   ·exact corners_1c v f l s p hp64 w hE hF hv h1 h2 h3 h4
   refine corners_1d v f l s p hp64 w hE hF hv h1 h2 h3 h4 ?_
   have hf : Dd.fieldE f = 0 := by
    unfold Dd.ptsF at h3
    by_cases h : Dd.fieldE f = 0
    ·exact h
    ·rw [if_neg h] at h3; exact absurd rfl h3
   exact Decidable.byContradiction fun hc => h2 ((Dd.corner_err hf p).2 ⟨by omega, by omega⟩)
  ·by_cases h2 : (Dd.cornerF f p).2.2 = 0
   ·exact corners_0a v f l s p hp64 w hE hF hv h1 h2
   by_cases h3 : Dd.ptsF f = 0
   ·exact corners_0b v f l s p hp64 w hE hF hv h1 h2 h3
   by_cases h4 : p < 1
   ·exact corners_0c v f l s p hp64 w hE hF hv h1 h2 h3 h4
   refine corners_0d v f l s p hp64 w hE hF hv h1 h2 h3 h4 ?_
   have hf : Dd.fieldE f = 0 := by
    unfold Dd.ptsF at h3
    by_cases h : Dd.fieldE f = 0
    ·exact h
    ·rw [if_neg h] at h3; exact absurd rfl h3
   exact Decidable.byContradiction fun hc => h2 ((Dd.corner_err hf p).2 ⟨by omega, by omega⟩)
 ·exact corners_vast v f l s p hp64 w hE hF hv

end Go.Proofs.YtcbeefbefapicaaGreatDoor
