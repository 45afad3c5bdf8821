/-
  What the claim needs: contracts.
-/
import Derived.Test.YtccikcpcfdjobaaGreatDoorBs20
set_option linter.unusedVariables false
set_option linter.unusedSimpArgs false
set_option maxHeartbeats 8000000
set_option maxRecDepth 100000
namespace Go.Proofs.YtccikcpcfdjobaaGreatDoor
section
open Go.RowKit
set_option maxHeartbeats 16000000 in
theorem y8x (v : Fv) (f : Dd.Fd) (x : Dd.Ca) (w : World) (hF : FRd w w.heap.size v f) :
  Calls Tryz.prog 126 #[fval v f, caval x] w fun e w' => e = .returned (.bool (Dd.rtable f x)) /\ Below w.heap.size w w' := by
 have hl1 := hF.l1;have hl2 := hF.l2;obtain ⟨R, hR⟩ := zE (Dd.rtable f x);have hrt : Dd.rtable f x = (if (Dd.isIx x.l f.li.length && Dd.isIx x.a f.st.length && decide (0 <= x.e /\ x.e <= 100000)) = false then false
  else if x.k = 1 then decide (x.c = Dd.co0) && decide (x.o = 0) && decide (x.b = 0) && decide (0 <= x.s /\ x.s <= 100000)
  else if x.k = 2 then decide (x.c = Dd.co0) && Dd.other f x && decide (x.b = 0) && decide (0 <= x.s /\ x.s <= 100000)
  else if x.k = 3 then decide (x.o = 0) && decide (x.s = 0) && decide (x.e = 0) && Dd.isIx x.b f.st.length && decide (x.b ≠ x.a)
  else if x.k = 4 then decide (x.c = Dd.co0) && Dd.other f x && decide (x.s = 0) && decide (x.e = 0) && decide (x.a < x.b) && decide (x.b < f.st.length)
  else if x.k = 5 then decide (x.c = Dd.co0) && decide (x.o = 0) && Dd.isIx x.b f.st.length && decide (x.b ≠ x.a) && decide (-100000 <= x.s /\ x.s <= 100000)
  else false) := rfl
 rw [hR] at hrt ⊢;have C0 := jQ (Cr.new (x := x) hF);have HW := jQ (fun n a b W => y0N n a b W);have HCO := fun W => y7E v f x.l x.a hl1 hl2 W;obtain ⟨g1, hg1⟩ := zE ((Dd.isIx x.l f.li.length && Dd.isIx x.a f.st.length));rw [hg1] at hrt HCO;obtain ⟨g2, hg2⟩ := zE (decide (0 <= x.e /\ x.e <= 100000));rw [hg2] at hrt;obtain ⟨z, hz⟩ := zE (decide (x.c = Dd.co0));rw [hz] at hrt;obtain ⟨ov, hov⟩ := zE (Dd.other f x);rw [hov] at hrt;have HOV := jQ (show (decide (x.l < x.o) && decide (x.o < (f.li.length : Int))) = ov from hov);have HZ := jQ hz;have HE2 := jQ (fun W => (show Calls Tryz.prog 51 #[.int .i64 x.e, .int .i64 0, .int .i64 100000] W fun e w' => e = .returned (.bool g2) /\ w' = W by rw [<- hg2]; exact y0N _ _ _ W));have HIB := jQ (fun W => (show Calls Tryz.prog 51 #[.int .i64 x.b, .int .i64 0, .int .i64 ((f.st.length : Int) - 1)] W fun e w' => e = .returned (.bool (Dd.isIx x.b f.st.length)) /\ w' = W by
  rw [show Dd.isIx x.b f.st.length = decide (0 <= x.b /\ x.b <= (f.st.length : Int) - 1) by unfold Dd.isIx; rw [Bool.eq_iff_iff]; simp only [decide_eq_true_eq]; omega];exact y0N _ _ _ W))
 have HS1 := jQ (fun W => y0N x.s 0 100000 W);have HS5 := jQ (fun W => y0N x.s (-100000) 100000 W);have HR := jQ hrt;have hw1 : IntKind.i64.wrap ((f.st.length : Int) - 1) = (f.st.length : Int) - 1 := IntWalk.i64_in _ (by omega);simp only [y01] at HCO;have HCO := jQ HCO;rw [y01, y03];clear hF hR hrt hg1 hg2 hz hov;go_enter Tryz.func126, Tryz.ntmps126;go_upto_region 1 with fail;refine y0i (fun V => Cr w v f x V) C0.o ?_;intro W1 hc;have C1 := jQ hc;clear C0 hc;have c0 := (C1.o.kC.cell 0).trans rfl;have c1 := (C1.o.kC.cell 1).trans rfl;have c2 := (C1.o.kC.cell 2).trans rfl;have c3 := (C1.o.kC.cell 3).trans rfl;have c4 := (C1.o.kC.cell 4).trans rfl;have c5 := (C1.o.kC.cell 5).trans rfl;have c6 := (C1.o.kC.cell 6).trans rfl;have c7 := (C1.o.kC.cell 7).trans rfl;have c8 := (C1.o.kC.cell 8).trans rfl;have c9 := (C1.o.kC.cell 9).trans rfl;have c10 := (C1.o.kC.cell 10).trans rfl;have c11 := (C1.o.kC.cell 11).trans rfl;have c12 := (C1.o.kC.cell 12).trans rfl;have cl := C1.o.kC.lt;obtain ⟨f0, f1, f2, f3, fl⟩ := C1.o.fs.cells;go_upto_region 2 with fail
 go_cut [6] (fun s6 wx => s6 = .bool ov /\ Cr w v f x wx)
 case first =>
  by_cases h1 : x.l < x.o
  ·have d1 : decide (x.o > x.l) = true := decide_eq_true h1;have HO := jQ (show decide (x.o < (f.li.length : Int)) = ov by rw [<- HOV.o, decide_eq_true h1, Bool.true_and]);clear h1;go_wp2_with fail;go_meet;exact ⟨by rw [<- HO.o], C1.o⟩
  have d1 : decide (x.o > x.l) = false := decide_eq_false (by omega);have HO := jQ (show false = ov by rw [<- HOV.o, decide_eq_false h1, Bool.false_and]);clear h1;go_wp2_with fail;go_meet;exact ⟨by rw [<- HO.o], C1.o⟩
 obtain ⟨rfl, hc⟩ := hcut;clear c0 c1 c2 c3 c4 c5 c6 c7 c8 c9 c10 c11 c12 cl f0 f1 f2 f3 fl C1;have C2 := jQ hc;clear hc;have c0 := (C2.o.kC.cell 0).trans rfl;have c1 := (C2.o.kC.cell 1).trans rfl;have c2 := (C2.o.kC.cell 2).trans rfl;have c3 := (C2.o.kC.cell 3).trans rfl;have c4 := (C2.o.kC.cell 4).trans rfl;have c5 := (C2.o.kC.cell 5).trans rfl;have c6 := (C2.o.kC.cell 6).trans rfl;have c7 := (C2.o.kC.cell 7).trans rfl;have c8 := (C2.o.kC.cell 8).trans rfl;have c9 := (C2.o.kC.cell 9).trans rfl;have c10 := (C2.o.kC.cell 10).trans rfl;have c11 := (C2.o.kC.cell 11).trans rfl;have c12 := (C2.o.kC.cell 12).trans rfl;have cl := C2.o.kC.lt;obtain ⟨f0, f1, f2, f3, fl⟩ := C2.o.fs.cells;rcases g1 with _ | _
 ·have HRF := jQ (show R = false by rw [HR.o]; simp);go_wp2_with fail;refine (HCO.o _).mono ?_;rintro e w3 ⟨rfl, hb⟩;have C3 := jQ (C2.o.next hb);clear hb;go_wp2_with fail;go_ret;exact ⟨y00 HRF.o.symm, C3.o.fs.b⟩
 go_wp2_with fail;refine (HCO.o _).mono ?_;rintro e w3 ⟨rfl, hb⟩;have C3 := jQ (C2.o.next hb);clear hb c0 c1 c2 c3 c4 c5 c6 c7 c8 c9 c10 c11 c12 cl f0 f1 f2 f3 fl C2;have c0 := (C3.o.kC.cell 0).trans rfl;have c1 := (C3.o.kC.cell 1).trans rfl;have c2 := (C3.o.kC.cell 2).trans rfl;have c3 := (C3.o.kC.cell 3).trans rfl;have c4 := (C3.o.kC.cell 4).trans rfl;have c5 := (C3.o.kC.cell 5).trans rfl;have c6 := (C3.o.kC.cell 6).trans rfl;have c7 := (C3.o.kC.cell 7).trans rfl;have c8 := (C3.o.kC.cell 8).trans rfl;have c9 := (C3.o.kC.cell 9).trans rfl;have c10 := (C3.o.kC.cell 10).trans rfl;have c11 := (C3.o.kC.cell 11).trans rfl;have c12 := (C3.o.kC.cell 12).trans rfl;have cl := C3.o.kC.lt;obtain ⟨f0, f1, f2, f3, fl⟩ := C3.o.fs.cells;go_wp2_with fail;refine (HE2.o _).mono ?_;rintro e w4 ⟨rfl, rfl⟩;rcases g2 with _ | _
 ·have HRF := jQ (show R = false by rw [HR.o]; simp);go_wp2_with fail;go_ret;exact ⟨y00 HRF.o.symm, C3.o.fs.b⟩
 have HR := jQ (HR.o.trans (if_neg (by decide)));go_upto_region 5 with fail
 go_cut [7] (fun s7 wx => s7 = .bool z /\ Cr w v f x wx)
 case first =>
  by_cases hc0 : x.c = Dd.co0
  ·have HZT := jQ (show true = z by rw [<- HZ.o, decide_eq_true hc0]);have b1 : x.c.b = 0 := by rw [hc0]; rfl
   have b2 : x.c.n = 0 := by rw [hc0]; rfl
   have b3 : x.c.l = 0 := by rw [hc0]; rfl
   have b4 : x.c.y = 0 := by rw [hc0]; rfl
   have b5 : x.c.w = 0 := by rw [hc0]; rfl
   have b6 : x.c.s = 0 := by rw [hc0]; rfl
   rw [b1] at c7;rw [b2] at c8;rw [b3] at c9;rw [b4] at c10;rw [b5] at c11;rw [b6] at c12;clear hc0 b1 b2 b3 b4 b5 b6;go_wp2_with fail
   all_goals
    go_meet;exact ⟨by rw [<- HZT.o], C3.o⟩
  have HZT := jQ (show false = z by rw [<- HZ.o, decide_eq_false hc0]);have HNE := jQ (show ∀ Y : Prop, x.c.b = 0 -> x.c.n = 0 -> x.c.l = 0 -> x.c.y = 0 -> x.c.w = 0 -> x.c.s = 0 -> Y from fun Y h1 h2 h3 h4 h5 h6 => by
   apply absurd _ hc0;have e : x.c = ⟨x.c.b, x.c.n, x.c.l, x.c.y, x.c.w, x.c.s⟩ := rfl;rw [e, h1, h2, h3, h4, h5, h6];rfl)
  clear hc0;rcases Int.decEq x.c.b 0 with n0 | n0
  ·go_wp2_with fail
   all_goals
    go_meet;exact ⟨by rw [<- HZT.o], C3.o⟩
  have N0 := jQ n0;rw [n0] at c7;clear n0;rcases Int.decEq x.c.n 0 with n1 | n1
  ·go_wp2_with fail
   all_goals
    go_meet;exact ⟨by rw [<- HZT.o], C3.o⟩
  have N1 := jQ n1;rw [n1] at c8;clear n1;rcases Int.decEq x.c.l 0 with n2 | n2
  ·go_wp2_with fail
   all_goals
    go_meet;exact ⟨by rw [<- HZT.o], C3.o⟩
  have N2 := jQ n2;rw [n2] at c9;clear n2;rcases Int.decEq x.c.y 0 with n3 | n3
  ·go_wp2_with fail
   all_goals
    go_meet;exact ⟨by rw [<- HZT.o], C3.o⟩
  have N3 := jQ n3;rw [n3] at c10;clear n3;rcases Int.decEq x.c.w 0 with n4 | n4
  ·go_wp2_with fail
   all_goals
    go_meet;exact ⟨by rw [<- HZT.o], C3.o⟩
  have N4 := jQ n4;rw [n4] at c11;clear n4;rcases Int.decEq x.c.s 0 with n5 | n5
  ·go_wp2_with fail
   all_goals
    go_meet;exact ⟨by rw [<- HZT.o], C3.o⟩
  have N5 := jQ n5;rw [n5] at c12;clear n5;exact HNE.o _ N0.o N1.o N2.o N3.o N4.o N5.o
 obtain ⟨rfl, hc⟩ := hcut;clear c0 c1 c2 c3 c4 c5 c6 c7 c8 c9 c10 c11 c12 cl f0 f1 f2 f3 fl C3;have C4 := jQ hc;clear hc;have c0 := (C4.o.kC.cell 0).trans rfl;have c1 := (C4.o.kC.cell 1).trans rfl;have c2 := (C4.o.kC.cell 2).trans rfl;have c3 := (C4.o.kC.cell 3).trans rfl;have c4 := (C4.o.kC.cell 4).trans rfl;have c5 := (C4.o.kC.cell 5).trans rfl;have c6 := (C4.o.kC.cell 6).trans rfl;have c7 := (C4.o.kC.cell 7).trans rfl;have c8 := (C4.o.kC.cell 8).trans rfl;have c9 := (C4.o.kC.cell 9).trans rfl;have c10 := (C4.o.kC.cell 10).trans rfl;have c11 := (C4.o.kC.cell 11).trans rfl;have c12 := (C4.o.kC.cell 12).trans rfl;have cl := C4.o.kC.lt;obtain ⟨f0, f1, f2, f3, fl⟩ := C4.o.fs.cells;by_cases k1 : x.k = 1
 ·have HR := jQ (HR.o.trans (if_pos k1));have q1 : (x.k == 1) = true := beq_iff_eq.2 k1;clear k1;rcases z with _ | _
  ·have HV := jQ (show R = false by rw [HR.o]; simp);go_wp2_with fail;go_ret;exact ⟨y00 HV.o.symm, C4.o.fs.b⟩
  rcases Int.decEq x.o 0 with h12 | h12
  ·have e2 : (x.o == 0) = false := beq_eq_false_iff_ne.2 h12;have HV := jQ (show R = false by rw [HR.o]; simp [h12]);clear h12;go_wp2_with fail;go_ret;exact ⟨y00 HV.o.symm, C4.o.fs.b⟩
  have e2 : (x.o == 0) = true := beq_iff_eq.2 h12;rcases Int.decEq x.b 0 with h13 | h13
  ·have e3 : (x.b == 0) = false := beq_eq_false_iff_ne.2 h13;have HV := jQ (show R = false by rw [HR.o]; simp [h12, h13]);clear h13 h12;go_wp2_with fail;go_ret;exact ⟨y00 HV.o.symm, C4.o.fs.b⟩
  have e3 : (x.b == 0) = true := beq_iff_eq.2 h13;have HV := jQ (show R = decide (0 <= x.s /\ x.s <= 100000) by rw [HR.o]; simp [h12, h13]);clear h12 h13;go_wp2_with fail;refine (HS1.o _).mono ?_;rintro e w5 ⟨rfl, rfl⟩;go_wp2_with fail;go_ret;exact ⟨y00 (by rw [HV.o]; simp), C4.o.fs.b⟩
 have HR := jQ (HR.o.trans (if_neg k1));have q1 : (x.k == 1) = false := beq_eq_false_iff_ne.2 k1;clear k1;by_cases k2 : x.k = 2
 ·have HR := jQ (HR.o.trans (if_pos k2));have q2 : (x.k == 2) = true := beq_iff_eq.2 k2;clear k2;rcases z with _ | _
  ·have HV := jQ (show R = false by rw [HR.o]; simp);go_wp2_with fail;go_ret;exact ⟨y00 HV.o.symm, C4.o.fs.b⟩
  rcases ov with _ | _
  ·have HV := jQ (show R = false by rw [HR.o]; simp);go_wp2_with fail;go_ret;exact ⟨y00 HV.o.symm, C4.o.fs.b⟩
  rcases Int.decEq x.b 0 with h23 | h23
  ·have e3 : (x.b == 0) = false := beq_eq_false_iff_ne.2 h23;have HV := jQ (show R = false by rw [HR.o]; simp [h23]);clear h23;go_wp2_with fail;go_ret;exact ⟨y00 HV.o.symm, C4.o.fs.b⟩
  have e3 : (x.b == 0) = true := beq_iff_eq.2 h23;have HV := jQ (show R = decide (0 <= x.s /\ x.s <= 100000) by rw [HR.o]; simp [h23]);clear h23;go_wp2_with fail;refine (HS1.o _).mono ?_;rintro e w5 ⟨rfl, rfl⟩;go_wp2_with fail;go_ret;exact ⟨y00 (by rw [HV.o]; simp), C4.o.fs.b⟩
 have HR := jQ (HR.o.trans (if_neg k2));have q2 : (x.k == 2) = false := beq_eq_false_iff_ne.2 k2;clear k2;by_cases k3 : x.k = 3
 ·have HR := jQ (HR.o.trans (if_pos k3));have q3 : (x.k == 3) = true := beq_iff_eq.2 k3;clear k3;rcases Int.decEq x.o 0 with h31 | h31
  ·have e1 : (x.o == 0) = false := beq_eq_false_iff_ne.2 h31;have HV := jQ (show R = false by rw [HR.o]; simp [h31]);clear h31;go_wp2_with fail;go_ret;exact ⟨y00 HV.o.symm, C4.o.fs.b⟩
  have e1 : (x.o == 0) = true := beq_iff_eq.2 h31;rcases Int.decEq x.s 0 with h32 | h32
  ·have e2 : (x.s == 0) = false := beq_eq_false_iff_ne.2 h32;have HV := jQ (show R = false by rw [HR.o]; simp [h31, h32]);clear h32 h31;go_wp2_with fail;go_ret;exact ⟨y00 HV.o.symm, C4.o.fs.b⟩
  have e2 : (x.s == 0) = true := beq_iff_eq.2 h32;rcases Int.decEq x.e 0 with h33 | h33
  ·have e3 : (x.e == 0) = false := beq_eq_false_iff_ne.2 h33;have HV := jQ (show R = false by rw [HR.o]; simp [h31, h32, h33]);clear h33 h31 h32;go_wp2_with fail;go_ret;exact ⟨y00 HV.o.symm, C4.o.fs.b⟩
  have e3 : (x.e == 0) = true := beq_iff_eq.2 h33;rcases h34 : Dd.isIx x.b f.st.length with _ | _
  ·rw [h34] at HIB;have HV := jQ (show R = false by rw [HR.o]; simp [h31, h32, h33, h34]);clear h34 h31 h32 h33;go_wp2_with fail;refine (HIB.o _).mono ?_;rintro e w5 ⟨rfl, rfl⟩;go_wp2_with fail;go_ret;exact ⟨y00 HV.o.symm, C4.o.fs.b⟩
  rw [h34] at HIB;rcases Int.decEq x.b x.a with h35 | h35;rotate_left
  ·have e5 : (x.b != x.a) = false := by simpa using h35
   have HV := jQ (show R = false by rw [HR.o]; simp [h31, h32, h33, h34, h35]);clear h35 h31 h32 h33 h34;go_wp2_with fail;refine (HIB.o _).mono ?_;rintro e w5 ⟨rfl, rfl⟩;go_wp2_with fail;go_ret;exact ⟨y00 HV.o.symm, C4.o.fs.b⟩
  have e5 : (x.b != x.a) = true := by simpa using h35
  have HV := jQ (show R = true by rw [HR.o]; simp [h31, h32, h33, h34, h35]);clear h31 h32 h33 h34 h35;go_wp2_with fail;refine (HIB.o _).mono ?_;rintro e w5 ⟨rfl, rfl⟩;go_wp2_with fail;go_ret;exact ⟨y00 HV.o.symm, C4.o.fs.b⟩
 have HR := jQ (HR.o.trans (if_neg k3));have q3 : (x.k == 3) = false := beq_eq_false_iff_ne.2 k3;clear k3;by_cases k4 : x.k = 4
 ·have HR := jQ (HR.o.trans (if_pos k4));have q4 : (x.k == 4) = true := beq_iff_eq.2 k4;clear k4;rcases z with _ | _
  ·have HV := jQ (show R = false by rw [HR.o]; simp);go_wp2_with fail;go_ret;exact ⟨y00 HV.o.symm, C4.o.fs.b⟩
  rcases ov with _ | _
  ·have HV := jQ (show R = false by rw [HR.o]; simp);go_wp2_with fail;go_ret;exact ⟨y00 HV.o.symm, C4.o.fs.b⟩
  rcases Int.decEq x.s 0 with h43 | h43
  ·have e3 : (x.s == 0) = false := beq_eq_false_iff_ne.2 h43;have HV := jQ (show R = false by rw [HR.o]; simp [h43]);clear h43;go_wp2_with fail;go_ret;exact ⟨y00 HV.o.symm, C4.o.fs.b⟩
  have e3 : (x.s == 0) = true := beq_iff_eq.2 h43;rcases Int.decEq x.e 0 with h44 | h44
  ·have e4 : (x.e == 0) = false := beq_eq_false_iff_ne.2 h44;have HV := jQ (show R = false by rw [HR.o]; simp [h43, h44]);clear h44 h43;go_wp2_with fail;go_ret;exact ⟨y00 HV.o.symm, C4.o.fs.b⟩
  have e4 : (x.e == 0) = true := beq_iff_eq.2 h44;by_cases h45 : x.a < x.b;rotate_left
  ·have e5 : decide (x.b > x.a) = false := decide_eq_false (by omega);have HV := jQ (show R = false by rw [HR.o]; simp only [decide_eq_false h45, Bool.and_false, Bool.false_and]);clear h45 h43 h44;go_wp2_with fail;go_ret;exact ⟨y00 HV.o.symm, C4.o.fs.b⟩
  have e5 : decide (x.b > x.a) = true := decide_eq_true (by omega);by_cases h46 : x.b < (f.st.length : Int);rotate_left
  ·have e6 : decide (x.b < (f.st.length : Int)) = false := decide_eq_false (by omega);have HV := jQ (show R = false by rw [HR.o]; simp only [decide_eq_false h46, Bool.and_false, Bool.false_and]);clear h46 h43 h44 h45;go_wp2_with fail;go_ret;exact ⟨y00 HV.o.symm, C4.o.fs.b⟩
  have e6 : decide (x.b < (f.st.length : Int)) = true := decide_eq_true (by omega);have HV := jQ (show R = true by rw [HR.o]; simp [h43, h44, h45, h46]);clear h43 h44 h45 h46;go_wp2_with fail;go_ret;exact ⟨y00 HV.o.symm, C4.o.fs.b⟩
 have HR := jQ (HR.o.trans (if_neg k4));have q4 : (x.k == 4) = false := beq_eq_false_iff_ne.2 k4;clear k4;by_cases k5 : x.k = 5
 ·have HR := jQ (HR.o.trans (if_pos k5));have q5 : (x.k == 5) = true := beq_iff_eq.2 k5;clear k5;rcases z with _ | _
  ·have HV := jQ (show R = false by rw [HR.o]; simp);go_wp2_with fail;go_ret;exact ⟨y00 HV.o.symm, C4.o.fs.b⟩
  rcases Int.decEq x.o 0 with h52 | h52
  ·have e2 : (x.o == 0) = false := beq_eq_false_iff_ne.2 h52;have HV := jQ (show R = false by rw [HR.o]; simp [h52]);clear h52;go_wp2_with fail;go_ret;exact ⟨y00 HV.o.symm, C4.o.fs.b⟩
  have e2 : (x.o == 0) = true := beq_iff_eq.2 h52;rcases h53 : Dd.isIx x.b f.st.length with _ | _
  ·rw [h53] at HIB;have HV := jQ (show R = false by rw [HR.o]; simp [h52, h53]);clear h53 h52;go_wp2_with fail;refine (HIB.o _).mono ?_;rintro e w5 ⟨rfl, rfl⟩;go_wp2_with fail;go_ret;exact ⟨y00 HV.o.symm, C4.o.fs.b⟩
  rw [h53] at HIB;rcases Int.decEq x.b x.a with h54 | h54;rotate_left
  ·have e4 : (x.b != x.a) = false := by simpa using h54
   have HV := jQ (show R = false by rw [HR.o]; simp [h52, h53, h54]);clear h54 h52 h53;go_wp2_with fail;refine (HIB.o _).mono ?_;rintro e w5 ⟨rfl, rfl⟩;go_wp2_with fail;go_ret;exact ⟨y00 HV.o.symm, C4.o.fs.b⟩
  have e4 : (x.b != x.a) = true := by simpa using h54
  have HV := jQ (show R = decide (-100000 <= x.s /\ x.s <= 100000) by rw [HR.o]; simp [h52, h53, h54]);clear h52 h53 h54;go_wp2_with fail;refine (HIB.o _).mono ?_;rintro e w5 ⟨rfl, rfl⟩;go_wp2_with fail;refine (HS5.o _).mono ?_;rintro e w5 ⟨rfl, rfl⟩;go_wp2_with fail;go_ret;exact ⟨y00 (by rw [HV.o]; simp), C4.o.fs.b⟩
 have HR := jQ (HR.o.trans (if_neg k5));have q5 : (x.k == 5) = false := beq_eq_false_iff_ne.2 k5;clear k5;have HV := jQ (show R = false from HR.o);go_wp2_with fail;go_ret;exact ⟨y00 HV.o.symm, C4.o.fs.b⟩
end
end Go.Proofs.YtccikcpcfdjobaaGreatDoor
