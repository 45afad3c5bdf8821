/-
  DeedMeans: the law's walk.
-/
import Derived.Test.YtcbeefbefapicaaGreatDoorBn42
import Derived.Test.YtcbeefbefapicaaGreatDoorBn17
import Derived.Test.YtcbeefbefapicaaGreatDoorBn30
set_option linter.unusedVariables false
set_option linter.unusedSimpArgs false
namespace Go.Proofs.YtcbeefbefapicaaGreatDoor
open Go.RowKit
set_option maxRecDepth 100000

theorem Rd.num_at {w : World} {B b o : Nat} {y : List Int} (h : Rd w B 1 (some ⟨b, o, none⟩) y.length (icells y)) {k : Nat} (hk : k < y.length) : w.cell? ⟨b, o + k, none⟩ = some (.int .i64 y[k]) ∧ b < B := by
 obtain ⟨b', o', e, hb, hc⟩ := h.num hk
 cases e
 exact ⟨hc, hb⟩

set_option maxHeartbeats 4000000 in
theorem means_vast (v : Fv) (f : Dd.Fd) (x : Dd.Ca) (A : Option Addr) (c : Nat) (y : List Int) (hyl : y.length ≤ 9223372036854775807) (w : World) (hE : Env w) (hF : FRw w w.heap.size v f) (hY : Rd w w.heap.size 1 A y.length (icells y)) (hv : Dd.vastF f = true) :
  Calls Tryz.prog 4 #[fval v f, caval x, .slice A y.length c] w fun e w' => e = .returned (.bool true) ∧ Below w.heap.size w w' := by
 have va := fun W (h : Lc w v f x A y W) => vast_any v f W h.raw
 rw [hv] at va
 have SP := Lib.hid (fun W (h : Env W) => spoken_any W h)
 have S0 := Lib.hid (Lc.new (x := x) hE hF hY)
 simp only [fval_def, caval_def] at va S0 ⊢
 have VA := Lib.hid va
 clear hF hv hE va hY
 go_enter Tryz.func4, Tryz.ntmps4
 obtain ⟨⟨⟨⟨⟨f0, f1⟩, f2, f3⟩, ⟨c0, c1⟩, c2, c3⟩, ⟨⟨c4, c5⟩, c6, c7⟩, ⟨c8, c9⟩, c10, c11, c12⟩, fl⟩ := S0.out.tree
 go_wp2_with fail
 refine (VA.out _ S0.out).mono ?_
 rintro e w1 ⟨rfl, hb⟩
 have S1 := Lib.hid (S0.out.next hb)
 clear hb f0 f1 f2 f3 c0 c1 c2 c3 c4 c5 c6 c7 c8 c9 c10 c11 c12 fl S0
 obtain ⟨⟨⟨⟨⟨f0, f1⟩, f2, f3⟩, ⟨c0, c1⟩, c2, c3⟩, ⟨⟨c4, c5⟩, c6, c7⟩, ⟨c8, c9⟩, c10, c11, c12⟩, fl⟩ := S1.out.tree
 go_wp2_with fail
 refine (SP.out _ S1.out.e).mono ?_
 rintro e w2 ⟨rfl, hb⟩
 have S2 := Lib.hid (S1.out.next hb)
 clear hb f0 f1 f2 f3 c0 c1 c2 c3 c4 c5 c6 c7 c8 c9 c10 c11 c12 fl S1
 obtain ⟨⟨⟨⟨⟨f0, f1⟩, f2, f3⟩, ⟨c0, c1⟩, c2, c3⟩, ⟨⟨c4, c5⟩, c6, c7⟩, ⟨c8, c9⟩, c10, c11, c12⟩, fl⟩ := S2.out.tree
 go_wp2_with fail
 go_ret
 exact ⟨rfl, S2.out.b⟩

set_option maxHeartbeats 4000000 in
theorem means_long (v : Fv) (f : Dd.Fd) (x : Dd.Ca) (A : Option Addr) (c : Nat) (y : List Int) (hyl : y.length ≤ 9223372036854775807) (w : World) (hE : Env w) (hF : FRw w w.heap.size v f) (hY : Rd w w.heap.size 1 A y.length (icells y)) (hv : Dd.vastF f = false) (hlong : 130 < y.length) :
  Calls Tryz.prog 4 #[fval v f, caval x, .slice A y.length c] w fun e w' => e = .returned (.bool true) ∧ Below w.heap.size w w' := by
 have va := fun W (h : Lc w v f x A y W) => vast_any v f W h.raw
 rw [hv] at va
 have SP := Lib.hid (fun W (h : Env W) => spoken_any W h)
 have S0 := Lib.hid (Lc.new (x := x) hE hF hY)
 have d1 : decide ((y.length : Int) > 130) = true := decide_eq_true (by omega)
 simp only [fval_def, caval_def] at va S0 ⊢
 have VA := Lib.hid va
 clear hF hv hE va hY hlong
 go_enter Tryz.func4, Tryz.ntmps4
 obtain ⟨⟨⟨⟨⟨f0, f1⟩, f2, f3⟩, ⟨c0, c1⟩, c2, c3⟩, ⟨⟨c4, c5⟩, c6, c7⟩, ⟨c8, c9⟩, c10, c11, c12⟩, fl⟩ := S0.out.tree
 go_wp2_with fail
 refine (VA.out _ S0.out).mono ?_
 rintro e w1 ⟨rfl, hb⟩
 have S1 := Lib.hid (S0.out.next hb)
 clear hb f0 f1 f2 f3 c0 c1 c2 c3 c4 c5 c6 c7 c8 c9 c10 c11 c12 fl S0
 obtain ⟨⟨⟨⟨⟨f0, f1⟩, f2, f3⟩, ⟨c0, c1⟩, c2, c3⟩, ⟨⟨c4, c5⟩, c6, c7⟩, ⟨c8, c9⟩, c10, c11, c12⟩, fl⟩ := S1.out.tree
 go_wp2_with fail
 refine (SP.out _ S1.out.e).mono ?_
 rintro e w2 ⟨rfl, hb⟩
 have S2 := Lib.hid (S1.out.next hb)
 clear hb f0 f1 f2 f3 c0 c1 c2 c3 c4 c5 c6 c7 c8 c9 c10 c11 c12 fl S1
 obtain ⟨⟨⟨⟨⟨f0, f1⟩, f2, f3⟩, ⟨c0, c1⟩, c2, c3⟩, ⟨⟨c4, c5⟩, c6, c7⟩, ⟨c8, c9⟩, c10, c11, c12⟩, fl⟩ := S2.out.tree
 go_wp2_with fail
 go_ret
 exact ⟨rfl, S2.out.b⟩

set_option maxHeartbeats 4000000 in
theorem means_wild (v : Fv) (f : Dd.Fd) (x : Dd.Ca) (A : Option Addr) (c : Nat) (y : List Int) (hyl : y.length ≤ 9223372036854775807) (w : World) (hE : Env w) (hF : FRw w w.heap.size v f) (hY : Rd w w.heap.size 1 A y.length (icells y)) (hv : Dd.vastF f = false) (hshort : y.length ≤ 130) (hbd : Dd.bndd y = false) :
  Calls Tryz.prog 4 #[fval v f, caval x, .slice A y.length c] w fun e w' => e = .returned (.bool true) ∧ Below w.heap.size w w' := by
 have va := fun W (h : Lc w v f x A y W) => vast_any v f W h.raw
 rw [hv] at va
 have bo := fun W (h : Lc w v f x A y W) => bounded_any A c y W h.yy (by omega)
 rw [hbd] at bo
 have SP := Lib.hid (fun W (h : Env W) => spoken_any W h)
 have S0 := Lib.hid (Lc.new (x := x) hE hF hY)
 have d1 : decide ((y.length : Int) > 130) = false := decide_eq_false (by omega)
 simp only [fval_def, caval_def] at va S0 ⊢
 have VA := Lib.hid va
 have BO := Lib.hid bo
 clear hF hv hE va hY bo hbd
 go_enter Tryz.func4, Tryz.ntmps4
 obtain ⟨⟨⟨⟨⟨f0, f1⟩, f2, f3⟩, ⟨c0, c1⟩, c2, c3⟩, ⟨⟨c4, c5⟩, c6, c7⟩, ⟨c8, c9⟩, c10, c11, c12⟩, fl⟩ := S0.out.tree
 go_wp2_with fail
 refine (VA.out _ S0.out).mono ?_
 rintro e w1 ⟨rfl, hb⟩
 have S1 := Lib.hid (S0.out.next hb)
 clear hb f0 f1 f2 f3 c0 c1 c2 c3 c4 c5 c6 c7 c8 c9 c10 c11 c12 fl S0
 obtain ⟨⟨⟨⟨⟨f0, f1⟩, f2, f3⟩, ⟨c0, c1⟩, c2, c3⟩, ⟨⟨c4, c5⟩, c6, c7⟩, ⟨c8, c9⟩, c10, c11, c12⟩, fl⟩ := S1.out.tree
 go_wp2_with fail
 refine (BO.out _ S1.out).mono ?_
 rintro e w2 ⟨rfl, hb⟩
 have S2 := Lib.hid (S1.out.next hb)
 clear hb f0 f1 f2 f3 c0 c1 c2 c3 c4 c5 c6 c7 c8 c9 c10 c11 c12 fl S1
 obtain ⟨⟨⟨⟨⟨f0, f1⟩, f2, f3⟩, ⟨c0, c1⟩, c2, c3⟩, ⟨⟨c4, c5⟩, c6, c7⟩, ⟨c8, c9⟩, c10, c11, c12⟩, fl⟩ := S2.out.tree
 go_wp2_with fail
 refine (SP.out _ S2.out.e).mono ?_
 rintro e w3 ⟨rfl, hb⟩
 have S3 := Lib.hid (S2.out.next hb)
 clear hb f0 f1 f2 f3 c0 c1 c2 c3 c4 c5 c6 c7 c8 c9 c10 c11 c12 fl S2
 obtain ⟨⟨⟨⟨⟨f0, f1⟩, f2, f3⟩, ⟨c0, c1⟩, c2, c3⟩, ⟨⟨c4, c5⟩, c6, c7⟩, ⟨c8, c9⟩, c10, c11, c12⟩, fl⟩ := S3.out.tree
 go_wp2_with fail
 go_ret
 exact ⟨rfl, S3.out.b⟩

set_option maxHeartbeats 4000000 in
theorem means_bad (v : Fv) (f : Dd.Fd) (x : Dd.Ca) (A : Option Addr) (c : Nat) (y : List Int) (hyl : y.length ≤ 9223372036854775807) (w : World) (hE : Env w) (hF : FRw w w.heap.size v f) (hY : Rd w w.heap.size 1 A y.length (icells y)) (hv : Dd.vastF f = false) (hshort : y.length ≤ 130) (hbd : Dd.bndd y = true) (h0 : ¬ Dd.fieldE f = 0) :
  Calls Tryz.prog 4 #[fval v f, caval x, .slice A y.length c] w fun e w' => e = .returned (.bool true) ∧ Below w.heap.size w w' := by
 have va := fun W (h : Lc w v f x A y W) => vast_any v f W h.raw
 rw [hv] at va
 have bo := fun W (h : Lc w v f x A y W) => bounded_any A c y W h.yy (by omega)
 rw [hbd] at bo
 have na := fun W (h : Lc w v f x A y W) => Nature_any v f W (h.rd hv)
 have dr := fun W (h : Lc w v f x A y W) => Drawn_any v f A c y W (h.rd hv) h.yy (by omega)
 rw [show Dd.natureF f = ([], Dd.fieldE f) by unfold Dd.natureF; rw [if_pos h0]] at na
 rw [show Dd.drawnF f y = (false, Dd.fieldE f) by unfold Dd.drawnF; rw [if_pos h0]] at dr
 obtain ⟨E, hEE⟩ : ∃ E, Dd.fieldE f = E := ⟨_, rfl⟩
 rw [hEE] at na dr h0
 have e1 : (E != 0) = true := by simp [h0]
 have SP := Lib.hid (fun W (h : Env W) => spoken_any W h)
 have S0 := Lib.hid (Lc.new (x := x) hE hF hY)
 have d1 : decide ((y.length : Int) > 130) = false := decide_eq_false (by omega)
 simp only [fval_def, caval_def] at va na dr S0 ⊢
 have VA := Lib.hid va
 have BO := Lib.hid bo
 have NA := Lib.hid na
 have DR := Lib.hid dr
 clear hF hv hE va hY bo hbd na dr h0 hEE
 go_enter Tryz.func4, Tryz.ntmps4
 obtain ⟨⟨⟨⟨⟨f0, f1⟩, f2, f3⟩, ⟨c0, c1⟩, c2, c3⟩, ⟨⟨c4, c5⟩, c6, c7⟩, ⟨c8, c9⟩, c10, c11, c12⟩, fl⟩ := S0.out.tree
 go_wp2_with fail
 refine (VA.out _ S0.out).mono ?_
 rintro e w1 ⟨rfl, hb⟩
 have S1 := Lib.hid (S0.out.next hb)
 clear hb f0 f1 f2 f3 c0 c1 c2 c3 c4 c5 c6 c7 c8 c9 c10 c11 c12 fl S0
 obtain ⟨⟨⟨⟨⟨f0, f1⟩, f2, f3⟩, ⟨c0, c1⟩, c2, c3⟩, ⟨⟨c4, c5⟩, c6, c7⟩, ⟨c8, c9⟩, c10, c11, c12⟩, fl⟩ := S1.out.tree
 go_wp2_with fail
 refine (BO.out _ S1.out).mono ?_
 rintro e w2 ⟨rfl, hb⟩
 have S2 := Lib.hid (S1.out.next hb)
 clear hb f0 f1 f2 f3 c0 c1 c2 c3 c4 c5 c6 c7 c8 c9 c10 c11 c12 fl S1
 obtain ⟨⟨⟨⟨⟨f0, f1⟩, f2, f3⟩, ⟨c0, c1⟩, c2, c3⟩, ⟨⟨c4, c5⟩, c6, c7⟩, ⟨c8, c9⟩, c10, c11, c12⟩, fl⟩ := S2.out.tree
 go_wp2_with fail
 refine (NA.out _ S2.out).mono ?_
 rintro e w3 ⟨An, cn, rfl, -, -, hb⟩
 have S3 := Lib.hid (S2.out.next hb)
 clear hb f0 f1 f2 f3 c0 c1 c2 c3 c4 c5 c6 c7 c8 c9 c10 c11 c12 fl S2
 obtain ⟨⟨⟨⟨⟨f0, f1⟩, f2, f3⟩, ⟨c0, c1⟩, c2, c3⟩, ⟨⟨c4, c5⟩, c6, c7⟩, ⟨c8, c9⟩, c10, c11, c12⟩, fl⟩ := S3.out.tree
 go_wp2_with fail
 refine (DR.out _ S3.out).mono ?_
 rintro e w4 ⟨rfl, hb⟩
 have S4 := Lib.hid (S3.out.next hb)
 clear hb f0 f1 f2 f3 c0 c1 c2 c3 c4 c5 c6 c7 c8 c9 c10 c11 c12 fl S3
 obtain ⟨⟨⟨⟨⟨f0, f1⟩, f2, f3⟩, ⟨c0, c1⟩, c2, c3⟩, ⟨⟨c4, c5⟩, c6, c7⟩, ⟨c8, c9⟩, c10, c11, c12⟩, fl⟩ := S4.out.tree
 go_wp2_with fail
 refine (SP.out _ S4.out.e).mono ?_
 rintro e w5 ⟨rfl, hb⟩
 have S5 := Lib.hid (S4.out.next hb)
 clear hb f0 f1 f2 f3 c0 c1 c2 c3 c4 c5 c6 c7 c8 c9 c10 c11 c12 fl S4
 obtain ⟨⟨⟨⟨⟨f0, f1⟩, f2, f3⟩, ⟨c0, c1⟩, c2, c3⟩, ⟨⟨c4, c5⟩, c6, c7⟩, ⟨c8, c9⟩, c10, c11, c12⟩, fl⟩ := S5.out.tree
 go_wp2_with fail
 go_ret
 exact ⟨rfl, S5.out.b⟩

set_option maxHeartbeats 4000000 in
theorem means_le (v : Fv) (f : Dd.Fd) (x : Dd.Ca) (A : Option Addr) (c : Nat) (y : List Int) (hyl : y.length ≤ 9223372036854775807) (w : World) (hE : Env w) (hF : FRw w w.heap.size v f) (hY : Rd w w.heap.size 1 A y.length (icells y)) (hv : Dd.vastF f = false) (hshort : y.length ≤ 130) (hbd : Dd.bndd y = true) (h0 : Dd.fieldE f = 0) (hlen : ¬ y.length = Dd.ptsN f) (hc : ¬ Dd.callE f x = 0) :
  Calls Tryz.prog 4 #[fval v f, caval x, .slice A y.length c] w fun e w' => e = .returned (.bool true) ∧ Below w.heap.size w w' := by
 have va := fun W (h : Lc w v f x A y W) => vast_any v f W h.raw
 rw [hv] at va
 have bo := fun W (h : Lc w v f x A y W) => bounded_any A c y W h.yy (by omega)
 rw [hbd] at bo
 have na := fun W (h : Lc w v f x A y W) => Nature_any v f W (h.rd hv)
 have dr := fun W (h : Lc w v f x A y W) => Drawn_any v f A c y W (h.rd hv) h.yy (by omega)
 have hdk : Dd.drw f y = false := by rw [Dd.drw_keeps h0, decide_eq_false hlen, Bool.false_and, Bool.false_and]
 obtain ⟨hnl, hp1, hp2⟩ := Dd.nat_len h0
 rw [show Dd.natureF f = (Dd.nat f, 0) by unfold Dd.natureF; rw [if_neg (by simpa using h0)]] at na
 rw [show Dd.drawnF f y = (false, 0) by unfold Dd.drawnF; rw [if_neg (by simpa using h0), hdk]] at dr
 have pt := fun W (h : Lc w v f x A y W) => Points_any v f W (h.rd hv)
 rw [show Dd.ptsF f = (Dd.ptsN f : Int) by unfold Dd.ptsF; rw [if_pos h0]] at pt
 have bn := fun W (h : Lc w v f x A y W) => dBounds_any v f x 1 W (h.rd hv) h.e.sn
 have al := fun W (h : Lc w v f x A y W) => dAllows_any v f x A c y W (h.rd hv) h.e.sn h.yy (by omega)
 rw [show Dd.boundsF f x 1 = ([], Dd.callE f x) by unfold Dd.boundsF; rw [if_pos hc]] at bn
 rw [show Dd.allowsF f x y = (false, Dd.callE f x) by unfold Dd.allowsF; rw [if_pos hc]] at al
 obtain ⟨E, hEE⟩ : ∃ E, Dd.callE f x = E := ⟨_, rfl⟩
 rw [hEE] at bn al hc
 have e1 : (E != 0) = true := by simp [hc]
 have SP := Lib.hid (fun W (h : Env W) => spoken_any W h)
 have q1 : ((y.length : Int) == (Dd.ptsN f : Int)) = false := beq_eq_false_iff_ne.2 (by omega)
 have S0 := Lib.hid (Lc.new (x := x) hE hF hY)
 have d1 : decide ((y.length : Int) > 130) = false := decide_eq_false (by omega)
 simp only [fval_def, caval_def] at va na dr pt bn al S0 ⊢
 have VA := Lib.hid va
 have BO := Lib.hid bo
 have NA := Lib.hid na
 have DR := Lib.hid dr
 have PT := Lib.hid pt
 have BN := Lib.hid bn
 have AL := Lib.hid al
 clear hF hv hE hY hbd h0 hlen hc hdk hnl hp1 hp2 va bo na dr pt bn al hEE
 go_enter Tryz.func4, Tryz.ntmps4
 obtain ⟨⟨⟨⟨⟨f0, f1⟩, f2, f3⟩, ⟨c0, c1⟩, c2, c3⟩, ⟨⟨c4, c5⟩, c6, c7⟩, ⟨c8, c9⟩, c10, c11, c12⟩, fl⟩ := S0.out.tree
 go_wp2_with fail
 refine (VA.out _ S0.out).mono ?_
 rintro e w1 ⟨rfl, hb⟩
 have S1 := Lib.hid (S0.out.next hb)
 clear hb f0 f1 f2 f3 c0 c1 c2 c3 c4 c5 c6 c7 c8 c9 c10 c11 c12 fl S0
 obtain ⟨⟨⟨⟨⟨f0, f1⟩, f2, f3⟩, ⟨c0, c1⟩, c2, c3⟩, ⟨⟨c4, c5⟩, c6, c7⟩, ⟨c8, c9⟩, c10, c11, c12⟩, fl⟩ := S1.out.tree
 go_wp2_with fail
 refine (BO.out _ S1.out).mono ?_
 rintro e w2 ⟨rfl, hb⟩
 have S2 := Lib.hid (S1.out.next hb)
 clear hb f0 f1 f2 f3 c0 c1 c2 c3 c4 c5 c6 c7 c8 c9 c10 c11 c12 fl S1
 obtain ⟨⟨⟨⟨⟨f0, f1⟩, f2, f3⟩, ⟨c0, c1⟩, c2, c3⟩, ⟨⟨c4, c5⟩, c6, c7⟩, ⟨c8, c9⟩, c10, c11, c12⟩, fl⟩ := S2.out.tree
 go_wp2_with fail
 refine (NA.out _ S2.out).mono ?_
 rintro e w3 ⟨An, cn, rfl, hrd, -, hb⟩
 have S3 := Lib.hid (S2.out.next hb)
 have RN := Lib.hid hrd
 clear hrd
 clear hb f0 f1 f2 f3 c0 c1 c2 c3 c4 c5 c6 c7 c8 c9 c10 c11 c12 fl S2
 obtain ⟨⟨⟨⟨⟨f0, f1⟩, f2, f3⟩, ⟨c0, c1⟩, c2, c3⟩, ⟨⟨c4, c5⟩, c6, c7⟩, ⟨c8, c9⟩, c10, c11, c12⟩, fl⟩ := S3.out.tree
 go_wp2_with fail
 refine (DR.out _ S3.out).mono ?_
 rintro e w4 ⟨rfl, hb⟩
 have S4 := Lib.hid (S3.out.next hb)
 have RNN := Lib.hid ((RN.out.below hb (Nat.le_refl _)).more hb.size)
 clear RN
 have RN := RNN
 clear RNN
 clear hb f0 f1 f2 f3 c0 c1 c2 c3 c4 c5 c6 c7 c8 c9 c10 c11 c12 fl S3
 obtain ⟨⟨⟨⟨⟨f0, f1⟩, f2, f3⟩, ⟨c0, c1⟩, c2, c3⟩, ⟨⟨c4, c5⟩, c6, c7⟩, ⟨c8, c9⟩, c10, c11, c12⟩, fl⟩ := S4.out.tree
 go_wp2_with fail
 refine (PT.out _ S4.out).mono ?_
 rintro e w5 ⟨rfl, hb⟩
 have S5 := Lib.hid (S4.out.next hb)
 have RNN := Lib.hid ((RN.out.below hb (Nat.le_refl _)).more hb.size)
 clear RN
 have RN := RNN
 clear RNN
 clear hb f0 f1 f2 f3 c0 c1 c2 c3 c4 c5 c6 c7 c8 c9 c10 c11 c12 fl S4
 obtain ⟨⟨⟨⟨⟨f0, f1⟩, f2, f3⟩, ⟨c0, c1⟩, c2, c3⟩, ⟨⟨c4, c5⟩, c6, c7⟩, ⟨c8, c9⟩, c10, c11, c12⟩, fl⟩ := S5.out.tree
 go_wp2_with fail
 refine (BN.out _ S5.out).mono ?_
 rintro e w6 ⟨Ab, cb, rfl, hrd, -, hb⟩
 have S6 := Lib.hid (S5.out.next hb)
 have RNN := Lib.hid ((RN.out.below hb (Nat.le_refl _)).more hb.size)
 clear RN
 have RN := RNN
 clear RNN
 have RB := Lib.hid hrd
 clear hrd
 clear hb f0 f1 f2 f3 c0 c1 c2 c3 c4 c5 c6 c7 c8 c9 c10 c11 c12 fl S5
 obtain ⟨⟨⟨⟨⟨f0, f1⟩, f2, f3⟩, ⟨c0, c1⟩, c2, c3⟩, ⟨⟨c4, c5⟩, c6, c7⟩, ⟨c8, c9⟩, c10, c11, c12⟩, fl⟩ := S6.out.tree
 go_wp2_with fail
 refine (AL.out _ S6.out).mono ?_
 rintro e w7 ⟨rfl, hb⟩
 have S7 := Lib.hid (S6.out.next hb)
 have RNN := Lib.hid ((RN.out.below hb (Nat.le_refl _)).more hb.size)
 clear RN
 have RN := RNN
 clear RNN
 have RBN := Lib.hid ((RB.out.below hb (Nat.le_refl _)).more hb.size)
 clear RB
 have RB := RBN
 clear RBN
 clear hb f0 f1 f2 f3 c0 c1 c2 c3 c4 c5 c6 c7 c8 c9 c10 c11 c12 fl S6
 obtain ⟨⟨⟨⟨⟨f0, f1⟩, f2, f3⟩, ⟨c0, c1⟩, c2, c3⟩, ⟨⟨c4, c5⟩, c6, c7⟩, ⟨c8, c9⟩, c10, c11, c12⟩, fl⟩ := S7.out.tree
 go_wp2_with fail
 refine (SP.out _ S7.out.e).mono ?_
 rintro e w8 ⟨rfl, hb⟩
 have S8 := Lib.hid (S7.out.next hb)
 have RNN := Lib.hid ((RN.out.below hb (Nat.le_refl _)).more hb.size)
 clear RN
 have RN := RNN
 clear RNN
 have RBN := Lib.hid ((RB.out.below hb (Nat.le_refl _)).more hb.size)
 clear RB
 have RB := RBN
 clear RBN
 clear hb f0 f1 f2 f3 c0 c1 c2 c3 c4 c5 c6 c7 c8 c9 c10 c11 c12 fl S7
 obtain ⟨⟨⟨⟨⟨f0, f1⟩, f2, f3⟩, ⟨c0, c1⟩, c2, c3⟩, ⟨⟨c4, c5⟩, c6, c7⟩, ⟨c8, c9⟩, c10, c11, c12⟩, fl⟩ := S8.out.tree
 go_wp2_with fail
 go_ret
 exact ⟨rfl, S8.out.b⟩

set_option maxHeartbeats 4000000 in
theorem means_ln (v : Fv) (f : Dd.Fd) (x : Dd.Ca) (A : Option Addr) (c : Nat) (y : List Int) (hyl : y.length ≤ 9223372036854775807) (w : World) (hE : Env w) (hF : FRw w w.heap.size v f) (hY : Rd w w.heap.size 1 A y.length (icells y)) (hv : Dd.vastF f = false) (hshort : y.length ≤ 130) (hbd : Dd.bndd y = true) (h0 : Dd.fieldE f = 0) (hlen : ¬ y.length = Dd.ptsN f) (hc : Dd.callE f x = 0) :
  Calls Tryz.prog 4 #[fval v f, caval x, .slice A y.length c] w fun e w' => e = .returned (.bool true) ∧ Below w.heap.size w w' := by
 have va := fun W (h : Lc w v f x A y W) => vast_any v f W h.raw
 rw [hv] at va
 have bo := fun W (h : Lc w v f x A y W) => bounded_any A c y W h.yy (by omega)
 rw [hbd] at bo
 have na := fun W (h : Lc w v f x A y W) => Nature_any v f W (h.rd hv)
 have dr := fun W (h : Lc w v f x A y W) => Drawn_any v f A c y W (h.rd hv) h.yy (by omega)
 have hdk : Dd.drw f y = false := by rw [Dd.drw_keeps h0, decide_eq_false hlen, Bool.false_and, Bool.false_and]
 obtain ⟨hnl, hp1, hp2⟩ := Dd.nat_len h0
 rw [show Dd.natureF f = (Dd.nat f, 0) by unfold Dd.natureF; rw [if_neg (by simpa using h0)]] at na
 rw [show Dd.drawnF f y = (false, 0) by unfold Dd.drawnF; rw [if_neg (by simpa using h0), hdk]] at dr
 have pt := fun W (h : Lc w v f x A y W) => Points_any v f W (h.rd hv)
 rw [show Dd.ptsF f = (Dd.ptsN f : Int) by unfold Dd.ptsF; rw [if_pos h0]] at pt
 have bn := fun W (h : Lc w v f x A y W) => dBounds_any v f x 1 W (h.rd hv) h.e.sn
 have al := fun W (h : Lc w v f x A y W) => dAllows_any v f x A c y W (h.rd hv) h.e.sn h.yy (by omega)
 rw [show Dd.boundsF f x 1 = (Dd.bnds f x 1, 0) by unfold Dd.boundsF; rw [if_neg (by simpa using hc), if_pos (by decide)]] at bn
 rw [show Dd.allowsF f x y = (false, 1) by unfold Dd.allowsF; rw [if_neg (by simpa using hc), hdk]; rfl] at al
 have SP := Lib.hid (fun W (h : Env W) => spoken_any W h)
 have q1 : ((y.length : Int) == (Dd.ptsN f : Int)) = false := beq_eq_false_iff_ne.2 (by omega)
 have S0 := Lib.hid (Lc.new (x := x) hE hF hY)
 have d1 : decide ((y.length : Int) > 130) = false := decide_eq_false (by omega)
 simp only [fval_def, caval_def] at va na dr pt bn al S0 ⊢
 have VA := Lib.hid va
 have BO := Lib.hid bo
 have NA := Lib.hid na
 have DR := Lib.hid dr
 have PT := Lib.hid pt
 have BN := Lib.hid bn
 have AL := Lib.hid al
 clear hF hv hE hY hbd h0 hlen hc hdk hnl hp1 hp2 va bo na dr pt bn al
 go_enter Tryz.func4, Tryz.ntmps4
 obtain ⟨⟨⟨⟨⟨f0, f1⟩, f2, f3⟩, ⟨c0, c1⟩, c2, c3⟩, ⟨⟨c4, c5⟩, c6, c7⟩, ⟨c8, c9⟩, c10, c11, c12⟩, fl⟩ := S0.out.tree
 go_wp2_with fail
 refine (VA.out _ S0.out).mono ?_
 rintro e w1 ⟨rfl, hb⟩
 have S1 := Lib.hid (S0.out.next hb)
 clear hb f0 f1 f2 f3 c0 c1 c2 c3 c4 c5 c6 c7 c8 c9 c10 c11 c12 fl S0
 obtain ⟨⟨⟨⟨⟨f0, f1⟩, f2, f3⟩, ⟨c0, c1⟩, c2, c3⟩, ⟨⟨c4, c5⟩, c6, c7⟩, ⟨c8, c9⟩, c10, c11, c12⟩, fl⟩ := S1.out.tree
 go_wp2_with fail
 refine (BO.out _ S1.out).mono ?_
 rintro e w2 ⟨rfl, hb⟩
 have S2 := Lib.hid (S1.out.next hb)
 clear hb f0 f1 f2 f3 c0 c1 c2 c3 c4 c5 c6 c7 c8 c9 c10 c11 c12 fl S1
 obtain ⟨⟨⟨⟨⟨f0, f1⟩, f2, f3⟩, ⟨c0, c1⟩, c2, c3⟩, ⟨⟨c4, c5⟩, c6, c7⟩, ⟨c8, c9⟩, c10, c11, c12⟩, fl⟩ := S2.out.tree
 go_wp2_with fail
 refine (NA.out _ S2.out).mono ?_
 rintro e w3 ⟨An, cn, rfl, hrd, -, hb⟩
 have S3 := Lib.hid (S2.out.next hb)
 have RN := Lib.hid hrd
 clear hrd
 clear hb f0 f1 f2 f3 c0 c1 c2 c3 c4 c5 c6 c7 c8 c9 c10 c11 c12 fl S2
 obtain ⟨⟨⟨⟨⟨f0, f1⟩, f2, f3⟩, ⟨c0, c1⟩, c2, c3⟩, ⟨⟨c4, c5⟩, c6, c7⟩, ⟨c8, c9⟩, c10, c11, c12⟩, fl⟩ := S3.out.tree
 go_wp2_with fail
 refine (DR.out _ S3.out).mono ?_
 rintro e w4 ⟨rfl, hb⟩
 have S4 := Lib.hid (S3.out.next hb)
 have RNN := Lib.hid ((RN.out.below hb (Nat.le_refl _)).more hb.size)
 clear RN
 have RN := RNN
 clear RNN
 clear hb f0 f1 f2 f3 c0 c1 c2 c3 c4 c5 c6 c7 c8 c9 c10 c11 c12 fl S3
 obtain ⟨⟨⟨⟨⟨f0, f1⟩, f2, f3⟩, ⟨c0, c1⟩, c2, c3⟩, ⟨⟨c4, c5⟩, c6, c7⟩, ⟨c8, c9⟩, c10, c11, c12⟩, fl⟩ := S4.out.tree
 go_wp2_with fail
 refine (PT.out _ S4.out).mono ?_
 rintro e w5 ⟨rfl, hb⟩
 have S5 := Lib.hid (S4.out.next hb)
 have RNN := Lib.hid ((RN.out.below hb (Nat.le_refl _)).more hb.size)
 clear RN
 have RN := RNN
 clear RNN
 clear hb f0 f1 f2 f3 c0 c1 c2 c3 c4 c5 c6 c7 c8 c9 c10 c11 c12 fl S4
 obtain ⟨⟨⟨⟨⟨f0, f1⟩, f2, f3⟩, ⟨c0, c1⟩, c2, c3⟩, ⟨⟨c4, c5⟩, c6, c7⟩, ⟨c8, c9⟩, c10, c11, c12⟩, fl⟩ := S5.out.tree
 go_wp2_with fail
 refine (BN.out _ S5.out).mono ?_
 rintro e w6 ⟨Ab, cb, rfl, hrd, -, hb⟩
 have S6 := Lib.hid (S5.out.next hb)
 have RNN := Lib.hid ((RN.out.below hb (Nat.le_refl _)).more hb.size)
 clear RN
 have RN := RNN
 clear RNN
 have RB := Lib.hid hrd
 clear hrd
 clear hb f0 f1 f2 f3 c0 c1 c2 c3 c4 c5 c6 c7 c8 c9 c10 c11 c12 fl S5
 obtain ⟨⟨⟨⟨⟨f0, f1⟩, f2, f3⟩, ⟨c0, c1⟩, c2, c3⟩, ⟨⟨c4, c5⟩, c6, c7⟩, ⟨c8, c9⟩, c10, c11, c12⟩, fl⟩ := S6.out.tree
 go_wp2_with fail
 refine (AL.out _ S6.out).mono ?_
 rintro e w7 ⟨rfl, hb⟩
 have S7 := Lib.hid (S6.out.next hb)
 have RNN := Lib.hid ((RN.out.below hb (Nat.le_refl _)).more hb.size)
 clear RN
 have RN := RNN
 clear RNN
 have RBN := Lib.hid ((RB.out.below hb (Nat.le_refl _)).more hb.size)
 clear RB
 have RB := RBN
 clear RBN
 clear hb f0 f1 f2 f3 c0 c1 c2 c3 c4 c5 c6 c7 c8 c9 c10 c11 c12 fl S6
 obtain ⟨⟨⟨⟨⟨f0, f1⟩, f2, f3⟩, ⟨c0, c1⟩, c2, c3⟩, ⟨⟨c4, c5⟩, c6, c7⟩, ⟨c8, c9⟩, c10, c11, c12⟩, fl⟩ := S7.out.tree
 go_wp2_with fail
 refine (SP.out _ S7.out.e).mono ?_
 rintro e w8 ⟨rfl, hb⟩
 have S8 := Lib.hid (S7.out.next hb)
 have RNN := Lib.hid ((RN.out.below hb (Nat.le_refl _)).more hb.size)
 clear RN
 have RN := RNN
 clear RNN
 have RBN := Lib.hid ((RB.out.below hb (Nat.le_refl _)).more hb.size)
 clear RB
 have RB := RBN
 clear RBN
 clear hb f0 f1 f2 f3 c0 c1 c2 c3 c4 c5 c6 c7 c8 c9 c10 c11 c12 fl S7
 obtain ⟨⟨⟨⟨⟨f0, f1⟩, f2, f3⟩, ⟨c0, c1⟩, c2, c3⟩, ⟨⟨c4, c5⟩, c6, c7⟩, ⟨c8, c9⟩, c10, c11, c12⟩, fl⟩ := S8.out.tree
 go_wp2_with fail
 go_ret
 exact ⟨rfl, S8.out.b⟩

set_option maxHeartbeats 4000000 in
theorem means_ye (v : Fv) (f : Dd.Fd) (x : Dd.Ca) (A : Option Addr) (c : Nat) (y : List Int) (hyl : y.length ≤ 9223372036854775807) (w : World) (hE : Env w) (hF : FRw w w.heap.size v f) (hY : Rd w w.heap.size 1 A y.length (icells y)) (hv : Dd.vastF f = false) (hshort : y.length ≤ 130) (hbd : Dd.bndd y = true) (h0 : Dd.fieldE f = 0) (hlen : y.length = Dd.ptsN f) (hy0 : ¬ Dd.at_ y 0 = 0) (hc : ¬ Dd.callE f x = 0) :
  Calls Tryz.prog 4 #[fval v f, caval x, .slice A y.length c] w fun e w' => e = .returned (.bool true) ∧ Below w.heap.size w w' := by
 have va := fun W (h : Lc w v f x A y W) => vast_any v f W h.raw
 rw [hv] at va
 have bo := fun W (h : Lc w v f x A y W) => bounded_any A c y W h.yy (by omega)
 rw [hbd] at bo
 have na := fun W (h : Lc w v f x A y W) => Nature_any v f W (h.rd hv)
 have dr := fun W (h : Lc w v f x A y W) => Drawn_any v f A c y W (h.rd hv) h.yy (by omega)
 have hdk : Dd.drw f y = false := by rw [Dd.drw_keeps h0, decide_eq_false hy0, Bool.and_false, Bool.false_and]
 obtain ⟨hnl, hp1, hp2⟩ := Dd.nat_len h0
 rw [show Dd.natureF f = (Dd.nat f, 0) by unfold Dd.natureF; rw [if_neg (by simpa using h0)]] at na
 rw [show Dd.drawnF f y = (false, 0) by unfold Dd.drawnF; rw [if_neg (by simpa using h0), hdk]] at dr
 have pt := fun W (h : Lc w v f x A y W) => Points_any v f W (h.rd hv)
 rw [show Dd.ptsF f = (Dd.ptsN f : Int) by unfold Dd.ptsF; rw [if_pos h0]] at pt
 have bn := fun W (h : Lc w v f x A y W) => dBounds_any v f x 1 W (h.rd hv) h.e.sn
 have al := fun W (h : Lc w v f x A y W) => dAllows_any v f x A c y W (h.rd hv) h.e.sn h.yy (by omega)
 rw [show Dd.boundsF f x 1 = ([], Dd.callE f x) by unfold Dd.boundsF; rw [if_pos hc]] at bn
 rw [show Dd.allowsF f x y = (false, Dd.callE f x) by unfold Dd.allowsF; rw [if_pos hc]] at al
 obtain ⟨E, hEE⟩ : ∃ E, Dd.callE f x = E := ⟨_, rfl⟩
 rw [hEE] at bn al hc
 have e1 : (E != 0) = true := by simp [hc]
 have SP := Lib.hid (fun W (h : Env W) => spoken_any W h)
 have q1 : ((y.length : Int) == (Dd.ptsN f : Int)) = true := beq_iff_eq.2 (by omega)
 have hlt : 0 < y.length := by omega
 have hlti : (0 : Int) < (y.length : Int) := by omega
 have ey : Dd.at_ y 0 = y[0] := by unfold Dd.at_; rw [show (0 : Int).toNat = 0 from rfl, List.getElem?_eq_getElem hlt]; rfl
 obtain ⟨b0, o0, rfl, -, -⟩ := hY.num hlt
 obtain ⟨z, hz⟩ : ∃ z, y[0] = z := ⟨_, rfl⟩
 rw [ey, hz] at hy0
 have HZ := Lib.hid (fun W (h : Lc w v f x (some ⟨b0, o0, none⟩) y W) => (show W.cell? ⟨b0, o0, none⟩ = some (.int .i64 z) ∧ b0 < W.heap.size by rw [← hz]; exact h.yy.num_at hlt))
 have q2 : (z == 0) = false := beq_eq_false_iff_ne.2 hy0
 have S0 := Lib.hid (Lc.new (x := x) hE hF hY)
 have d1 : decide ((y.length : Int) > 130) = false := decide_eq_false (by omega)
 simp only [fval_def, caval_def] at va na dr pt bn al S0 ⊢
 have VA := Lib.hid va
 have BO := Lib.hid bo
 have NA := Lib.hid na
 have DR := Lib.hid dr
 have PT := Lib.hid pt
 have BN := Lib.hid bn
 have AL := Lib.hid al
 clear hF hv hE hY hbd h0 hlen hc hdk hnl hp1 hp2 va bo na dr pt bn al hy0 ey hz hEE
 go_enter Tryz.func4, Tryz.ntmps4
 obtain ⟨⟨⟨⟨⟨f0, f1⟩, f2, f3⟩, ⟨c0, c1⟩, c2, c3⟩, ⟨⟨c4, c5⟩, c6, c7⟩, ⟨c8, c9⟩, c10, c11, c12⟩, fl⟩ := S0.out.tree
 go_wp2_with fail
 refine (VA.out _ S0.out).mono ?_
 rintro e w1 ⟨rfl, hb⟩
 have S1 := Lib.hid (S0.out.next hb)
 clear hb f0 f1 f2 f3 c0 c1 c2 c3 c4 c5 c6 c7 c8 c9 c10 c11 c12 fl S0
 obtain ⟨⟨⟨⟨⟨f0, f1⟩, f2, f3⟩, ⟨c0, c1⟩, c2, c3⟩, ⟨⟨c4, c5⟩, c6, c7⟩, ⟨c8, c9⟩, c10, c11, c12⟩, fl⟩ := S1.out.tree
 go_wp2_with fail
 refine (BO.out _ S1.out).mono ?_
 rintro e w2 ⟨rfl, hb⟩
 have S2 := Lib.hid (S1.out.next hb)
 clear hb f0 f1 f2 f3 c0 c1 c2 c3 c4 c5 c6 c7 c8 c9 c10 c11 c12 fl S1
 obtain ⟨⟨⟨⟨⟨f0, f1⟩, f2, f3⟩, ⟨c0, c1⟩, c2, c3⟩, ⟨⟨c4, c5⟩, c6, c7⟩, ⟨c8, c9⟩, c10, c11, c12⟩, fl⟩ := S2.out.tree
 go_wp2_with fail
 refine (NA.out _ S2.out).mono ?_
 rintro e w3 ⟨An, cn, rfl, hrd, -, hb⟩
 have S3 := Lib.hid (S2.out.next hb)
 have RN := Lib.hid hrd
 clear hrd
 clear hb f0 f1 f2 f3 c0 c1 c2 c3 c4 c5 c6 c7 c8 c9 c10 c11 c12 fl S2
 obtain ⟨⟨⟨⟨⟨f0, f1⟩, f2, f3⟩, ⟨c0, c1⟩, c2, c3⟩, ⟨⟨c4, c5⟩, c6, c7⟩, ⟨c8, c9⟩, c10, c11, c12⟩, fl⟩ := S3.out.tree
 go_wp2_with fail
 refine (DR.out _ S3.out).mono ?_
 rintro e w4 ⟨rfl, hb⟩
 have S4 := Lib.hid (S3.out.next hb)
 have RNN := Lib.hid ((RN.out.below hb (Nat.le_refl _)).more hb.size)
 clear RN
 have RN := RNN
 clear RNN
 clear hb f0 f1 f2 f3 c0 c1 c2 c3 c4 c5 c6 c7 c8 c9 c10 c11 c12 fl S3
 obtain ⟨⟨⟨⟨⟨f0, f1⟩, f2, f3⟩, ⟨c0, c1⟩, c2, c3⟩, ⟨⟨c4, c5⟩, c6, c7⟩, ⟨c8, c9⟩, c10, c11, c12⟩, fl⟩ := S4.out.tree
 go_wp2_with fail
 refine (PT.out _ S4.out).mono ?_
 rintro e w5 ⟨rfl, hb⟩
 have S5 := Lib.hid (S4.out.next hb)
 have RNN := Lib.hid ((RN.out.below hb (Nat.le_refl _)).more hb.size)
 clear RN
 have RN := RNN
 clear RNN
 clear hb f0 f1 f2 f3 c0 c1 c2 c3 c4 c5 c6 c7 c8 c9 c10 c11 c12 fl S4
 obtain ⟨⟨⟨⟨⟨f0, f1⟩, f2, f3⟩, ⟨c0, c1⟩, c2, c3⟩, ⟨⟨c4, c5⟩, c6, c7⟩, ⟨c8, c9⟩, c10, c11, c12⟩, fl⟩ := S5.out.tree
 obtain ⟨y0, y0l⟩ := HZ.out _ S5.out
 go_wp2_with fail
 refine (BN.out _ S5.out).mono ?_
 rintro e w6 ⟨Ab, cb, rfl, hrd, -, hb⟩
 have S6 := Lib.hid (S5.out.next hb)
 have RNN := Lib.hid ((RN.out.below hb (Nat.le_refl _)).more hb.size)
 clear RN
 have RN := RNN
 clear RNN
 have RB := Lib.hid hrd
 clear hrd
 clear hb f0 f1 f2 f3 c0 c1 c2 c3 c4 c5 c6 c7 c8 c9 c10 c11 c12 fl S5 y0 y0l
 obtain ⟨⟨⟨⟨⟨f0, f1⟩, f2, f3⟩, ⟨c0, c1⟩, c2, c3⟩, ⟨⟨c4, c5⟩, c6, c7⟩, ⟨c8, c9⟩, c10, c11, c12⟩, fl⟩ := S6.out.tree
 go_wp2_with fail
 refine (AL.out _ S6.out).mono ?_
 rintro e w7 ⟨rfl, hb⟩
 have S7 := Lib.hid (S6.out.next hb)
 have RNN := Lib.hid ((RN.out.below hb (Nat.le_refl _)).more hb.size)
 clear RN
 have RN := RNN
 clear RNN
 have RBN := Lib.hid ((RB.out.below hb (Nat.le_refl _)).more hb.size)
 clear RB
 have RB := RBN
 clear RBN
 clear hb f0 f1 f2 f3 c0 c1 c2 c3 c4 c5 c6 c7 c8 c9 c10 c11 c12 fl S6
 obtain ⟨⟨⟨⟨⟨f0, f1⟩, f2, f3⟩, ⟨c0, c1⟩, c2, c3⟩, ⟨⟨c4, c5⟩, c6, c7⟩, ⟨c8, c9⟩, c10, c11, c12⟩, fl⟩ := S7.out.tree
 go_wp2_with fail
 refine (SP.out _ S7.out.e).mono ?_
 rintro e w8 ⟨rfl, hb⟩
 have S8 := Lib.hid (S7.out.next hb)
 have RNN := Lib.hid ((RN.out.below hb (Nat.le_refl _)).more hb.size)
 clear RN
 have RN := RNN
 clear RNN
 have RBN := Lib.hid ((RB.out.below hb (Nat.le_refl _)).more hb.size)
 clear RB
 have RB := RBN
 clear RBN
 clear hb f0 f1 f2 f3 c0 c1 c2 c3 c4 c5 c6 c7 c8 c9 c10 c11 c12 fl S7
 obtain ⟨⟨⟨⟨⟨f0, f1⟩, f2, f3⟩, ⟨c0, c1⟩, c2, c3⟩, ⟨⟨c4, c5⟩, c6, c7⟩, ⟨c8, c9⟩, c10, c11, c12⟩, fl⟩ := S8.out.tree
 go_wp2_with fail
 go_ret
 exact ⟨rfl, S8.out.b⟩

set_option maxHeartbeats 4000000 in
theorem means_yn (v : Fv) (f : Dd.Fd) (x : Dd.Ca) (A : Option Addr) (c : Nat) (y : List Int) (hyl : y.length ≤ 9223372036854775807) (w : World) (hE : Env w) (hF : FRw w w.heap.size v f) (hY : Rd w w.heap.size 1 A y.length (icells y)) (hv : Dd.vastF f = false) (hshort : y.length ≤ 130) (hbd : Dd.bndd y = true) (h0 : Dd.fieldE f = 0) (hlen : y.length = Dd.ptsN f) (hy0 : ¬ Dd.at_ y 0 = 0) (hc : Dd.callE f x = 0) :
  Calls Tryz.prog 4 #[fval v f, caval x, .slice A y.length c] w fun e w' => e = .returned (.bool true) ∧ Below w.heap.size w w' := by
 have va := fun W (h : Lc w v f x A y W) => vast_any v f W h.raw
 rw [hv] at va
 have bo := fun W (h : Lc w v f x A y W) => bounded_any A c y W h.yy (by omega)
 rw [hbd] at bo
 have na := fun W (h : Lc w v f x A y W) => Nature_any v f W (h.rd hv)
 have dr := fun W (h : Lc w v f x A y W) => Drawn_any v f A c y W (h.rd hv) h.yy (by omega)
 have hdk : Dd.drw f y = false := by rw [Dd.drw_keeps h0, decide_eq_false hy0, Bool.and_false, Bool.false_and]
 obtain ⟨hnl, hp1, hp2⟩ := Dd.nat_len h0
 rw [show Dd.natureF f = (Dd.nat f, 0) by unfold Dd.natureF; rw [if_neg (by simpa using h0)]] at na
 rw [show Dd.drawnF f y = (false, 0) by unfold Dd.drawnF; rw [if_neg (by simpa using h0), hdk]] at dr
 have pt := fun W (h : Lc w v f x A y W) => Points_any v f W (h.rd hv)
 rw [show Dd.ptsF f = (Dd.ptsN f : Int) by unfold Dd.ptsF; rw [if_pos h0]] at pt
 have bn := fun W (h : Lc w v f x A y W) => dBounds_any v f x 1 W (h.rd hv) h.e.sn
 have al := fun W (h : Lc w v f x A y W) => dAllows_any v f x A c y W (h.rd hv) h.e.sn h.yy (by omega)
 rw [show Dd.boundsF f x 1 = (Dd.bnds f x 1, 0) by unfold Dd.boundsF; rw [if_neg (by simpa using hc), if_pos (by decide)]] at bn
 rw [show Dd.allowsF f x y = (false, 1) by unfold Dd.allowsF; rw [if_neg (by simpa using hc), hdk]; rfl] at al
 have SP := Lib.hid (fun W (h : Env W) => spoken_any W h)
 have q1 : ((y.length : Int) == (Dd.ptsN f : Int)) = true := beq_iff_eq.2 (by omega)
 have hlt : 0 < y.length := by omega
 have hlti : (0 : Int) < (y.length : Int) := by omega
 have ey : Dd.at_ y 0 = y[0] := by unfold Dd.at_; rw [show (0 : Int).toNat = 0 from rfl, List.getElem?_eq_getElem hlt]; rfl
 obtain ⟨b0, o0, rfl, -, -⟩ := hY.num hlt
 obtain ⟨z, hz⟩ : ∃ z, y[0] = z := ⟨_, rfl⟩
 rw [ey, hz] at hy0
 have HZ := Lib.hid (fun W (h : Lc w v f x (some ⟨b0, o0, none⟩) y W) => (show W.cell? ⟨b0, o0, none⟩ = some (.int .i64 z) ∧ b0 < W.heap.size by rw [← hz]; exact h.yy.num_at hlt))
 have q2 : (z == 0) = false := beq_eq_false_iff_ne.2 hy0
 have S0 := Lib.hid (Lc.new (x := x) hE hF hY)
 have d1 : decide ((y.length : Int) > 130) = false := decide_eq_false (by omega)
 simp only [fval_def, caval_def] at va na dr pt bn al S0 ⊢
 have VA := Lib.hid va
 have BO := Lib.hid bo
 have NA := Lib.hid na
 have DR := Lib.hid dr
 have PT := Lib.hid pt
 have BN := Lib.hid bn
 have AL := Lib.hid al
 clear hF hv hE hY hbd h0 hlen hc hdk hnl hp1 hp2 va bo na dr pt bn al hy0 ey hz
 go_enter Tryz.func4, Tryz.ntmps4
 obtain ⟨⟨⟨⟨⟨f0, f1⟩, f2, f3⟩, ⟨c0, c1⟩, c2, c3⟩, ⟨⟨c4, c5⟩, c6, c7⟩, ⟨c8, c9⟩, c10, c11, c12⟩, fl⟩ := S0.out.tree
 go_wp2_with fail
 refine (VA.out _ S0.out).mono ?_
 rintro e w1 ⟨rfl, hb⟩
 have S1 := Lib.hid (S0.out.next hb)
 clear hb f0 f1 f2 f3 c0 c1 c2 c3 c4 c5 c6 c7 c8 c9 c10 c11 c12 fl S0
 obtain ⟨⟨⟨⟨⟨f0, f1⟩, f2, f3⟩, ⟨c0, c1⟩, c2, c3⟩, ⟨⟨c4, c5⟩, c6, c7⟩, ⟨c8, c9⟩, c10, c11, c12⟩, fl⟩ := S1.out.tree
 go_wp2_with fail
 refine (BO.out _ S1.out).mono ?_
 rintro e w2 ⟨rfl, hb⟩
 have S2 := Lib.hid (S1.out.next hb)
 clear hb f0 f1 f2 f3 c0 c1 c2 c3 c4 c5 c6 c7 c8 c9 c10 c11 c12 fl S1
 obtain ⟨⟨⟨⟨⟨f0, f1⟩, f2, f3⟩, ⟨c0, c1⟩, c2, c3⟩, ⟨⟨c4, c5⟩, c6, c7⟩, ⟨c8, c9⟩, c10, c11, c12⟩, fl⟩ := S2.out.tree
 go_wp2_with fail
 refine (NA.out _ S2.out).mono ?_
 rintro e w3 ⟨An, cn, rfl, hrd, -, hb⟩
 have S3 := Lib.hid (S2.out.next hb)
 have RN := Lib.hid hrd
 clear hrd
 clear hb f0 f1 f2 f3 c0 c1 c2 c3 c4 c5 c6 c7 c8 c9 c10 c11 c12 fl S2
 obtain ⟨⟨⟨⟨⟨f0, f1⟩, f2, f3⟩, ⟨c0, c1⟩, c2, c3⟩, ⟨⟨c4, c5⟩, c6, c7⟩, ⟨c8, c9⟩, c10, c11, c12⟩, fl⟩ := S3.out.tree
 go_wp2_with fail
 refine (DR.out _ S3.out).mono ?_
 rintro e w4 ⟨rfl, hb⟩
 have S4 := Lib.hid (S3.out.next hb)
 have RNN := Lib.hid ((RN.out.below hb (Nat.le_refl _)).more hb.size)
 clear RN
 have RN := RNN
 clear RNN
 clear hb f0 f1 f2 f3 c0 c1 c2 c3 c4 c5 c6 c7 c8 c9 c10 c11 c12 fl S3
 obtain ⟨⟨⟨⟨⟨f0, f1⟩, f2, f3⟩, ⟨c0, c1⟩, c2, c3⟩, ⟨⟨c4, c5⟩, c6, c7⟩, ⟨c8, c9⟩, c10, c11, c12⟩, fl⟩ := S4.out.tree
 go_wp2_with fail
 refine (PT.out _ S4.out).mono ?_
 rintro e w5 ⟨rfl, hb⟩
 have S5 := Lib.hid (S4.out.next hb)
 have RNN := Lib.hid ((RN.out.below hb (Nat.le_refl _)).more hb.size)
 clear RN
 have RN := RNN
 clear RNN
 clear hb f0 f1 f2 f3 c0 c1 c2 c3 c4 c5 c6 c7 c8 c9 c10 c11 c12 fl S4
 obtain ⟨⟨⟨⟨⟨f0, f1⟩, f2, f3⟩, ⟨c0, c1⟩, c2, c3⟩, ⟨⟨c4, c5⟩, c6, c7⟩, ⟨c8, c9⟩, c10, c11, c12⟩, fl⟩ := S5.out.tree
 obtain ⟨y0, y0l⟩ := HZ.out _ S5.out
 go_wp2_with fail
 refine (BN.out _ S5.out).mono ?_
 rintro e w6 ⟨Ab, cb, rfl, hrd, -, hb⟩
 have S6 := Lib.hid (S5.out.next hb)
 have RNN := Lib.hid ((RN.out.below hb (Nat.le_refl _)).more hb.size)
 clear RN
 have RN := RNN
 clear RNN
 have RB := Lib.hid hrd
 clear hrd
 clear hb f0 f1 f2 f3 c0 c1 c2 c3 c4 c5 c6 c7 c8 c9 c10 c11 c12 fl S5 y0 y0l
 obtain ⟨⟨⟨⟨⟨f0, f1⟩, f2, f3⟩, ⟨c0, c1⟩, c2, c3⟩, ⟨⟨c4, c5⟩, c6, c7⟩, ⟨c8, c9⟩, c10, c11, c12⟩, fl⟩ := S6.out.tree
 go_wp2_with fail
 refine (AL.out _ S6.out).mono ?_
 rintro e w7 ⟨rfl, hb⟩
 have S7 := Lib.hid (S6.out.next hb)
 have RNN := Lib.hid ((RN.out.below hb (Nat.le_refl _)).more hb.size)
 clear RN
 have RN := RNN
 clear RNN
 have RBN := Lib.hid ((RB.out.below hb (Nat.le_refl _)).more hb.size)
 clear RB
 have RB := RBN
 clear RBN
 clear hb f0 f1 f2 f3 c0 c1 c2 c3 c4 c5 c6 c7 c8 c9 c10 c11 c12 fl S6
 obtain ⟨⟨⟨⟨⟨f0, f1⟩, f2, f3⟩, ⟨c0, c1⟩, c2, c3⟩, ⟨⟨c4, c5⟩, c6, c7⟩, ⟨c8, c9⟩, c10, c11, c12⟩, fl⟩ := S7.out.tree
 go_wp2_with fail
 refine (SP.out _ S7.out.e).mono ?_
 rintro e w8 ⟨rfl, hb⟩
 have S8 := Lib.hid (S7.out.next hb)
 have RNN := Lib.hid ((RN.out.below hb (Nat.le_refl _)).more hb.size)
 clear RN
 have RN := RNN
 clear RNN
 have RBN := Lib.hid ((RB.out.below hb (Nat.le_refl _)).more hb.size)
 clear RB
 have RB := RBN
 clear RBN
 clear hb f0 f1 f2 f3 c0 c1 c2 c3 c4 c5 c6 c7 c8 c9 c10 c11 c12 fl S7
 obtain ⟨⟨⟨⟨⟨f0, f1⟩, f2, f3⟩, ⟨c0, c1⟩, c2, c3⟩, ⟨⟨c4, c5⟩, c6, c7⟩, ⟨c8, c9⟩, c10, c11, c12⟩, fl⟩ := S8.out.tree
 go_wp2_with fail
 go_ret
 exact ⟨rfl, S8.out.b⟩

set_option maxHeartbeats 4000000 in
theorem means_ke (v : Fv) (f : Dd.Fd) (x : Dd.Ca) (A : Option Addr) (c : Nat) (y : List Int) (hyl : y.length ≤ 9223372036854775807) (w : World) (hE : Env w) (hF : FRw w w.heap.size v f) (hY : Rd w w.heap.size 1 A y.length (icells y)) (hv : Dd.vastF f = false) (hshort : y.length ≤ 130) (hbd : Dd.bndd y = true) (h0 : Dd.fieldE f = 0) (hlen : y.length = Dd.ptsN f) (hy0 : Dd.at_ y 0 = 0) (hk : Dd.keepsL y (Dd.nat f) = false) (hc : ¬ Dd.callE f x = 0) :
  Calls Tryz.prog 4 #[fval v f, caval x, .slice A y.length c] w fun e w' => e = .returned (.bool true) ∧ Below w.heap.size w w' := by
 have va := fun W (h : Lc w v f x A y W) => vast_any v f W h.raw
 rw [hv] at va
 have bo := fun W (h : Lc w v f x A y W) => bounded_any A c y W h.yy (by omega)
 rw [hbd] at bo
 have na := fun W (h : Lc w v f x A y W) => Nature_any v f W (h.rd hv)
 have dr := fun W (h : Lc w v f x A y W) => Drawn_any v f A c y W (h.rd hv) h.yy (by omega)
 have hdk : Dd.drw f y = false := by rw [Dd.drw_keeps h0, show (Dd.nat f).all (Dd.keepsI y) = false from hk, Bool.and_false]
 obtain ⟨hnl, hp1, hp2⟩ := Dd.nat_len h0
 rw [show Dd.natureF f = (Dd.nat f, 0) by unfold Dd.natureF; rw [if_neg (by simpa using h0)]] at na
 rw [show Dd.drawnF f y = (false, 0) by unfold Dd.drawnF; rw [if_neg (by simpa using h0), hdk]] at dr
 have pt := fun W (h : Lc w v f x A y W) => Points_any v f W (h.rd hv)
 rw [show Dd.ptsF f = (Dd.ptsN f : Int) by unfold Dd.ptsF; rw [if_pos h0]] at pt
 have bn := fun W (h : Lc w v f x A y W) => dBounds_any v f x 1 W (h.rd hv) h.e.sn
 have al := fun W (h : Lc w v f x A y W) => dAllows_any v f x A c y W (h.rd hv) h.e.sn h.yy (by omega)
 have kn := fun An cn W (h : Lc w v f x A y W) (hr : Rd W W.heap.size 4 An (Dd.nat f).length (bcells (Dd.nat f))) => keeps_any An cn (Dd.nat f) A c y W hr h.yy (by omega) (by omega) hbd
 rw [hk] at kn
 rw [show Dd.boundsF f x 1 = ([], Dd.callE f x) by unfold Dd.boundsF; rw [if_pos hc]] at bn
 rw [show Dd.allowsF f x y = (false, Dd.callE f x) by unfold Dd.allowsF; rw [if_pos hc]] at al
 obtain ⟨E, hEE⟩ : ∃ E, Dd.callE f x = E := ⟨_, rfl⟩
 rw [hEE] at bn al hc
 have e1 : (E != 0) = true := by simp [hc]
 have SP := Lib.hid (fun W (h : Env W) => spoken_any W h)
 have q1 : ((y.length : Int) == (Dd.ptsN f : Int)) = true := beq_iff_eq.2 (by omega)
 have hlt : 0 < y.length := by omega
 have hlti : (0 : Int) < (y.length : Int) := by omega
 have ey : Dd.at_ y 0 = y[0] := by unfold Dd.at_; rw [show (0 : Int).toNat = 0 from rfl, List.getElem?_eq_getElem hlt]; rfl
 obtain ⟨b0, o0, rfl, -, -⟩ := hY.num hlt
 obtain ⟨z, hz⟩ : ∃ z, y[0] = z := ⟨_, rfl⟩
 rw [ey, hz] at hy0
 have HZ := Lib.hid (fun W (h : Lc w v f x (some ⟨b0, o0, none⟩) y W) => (show W.cell? ⟨b0, o0, none⟩ = some (.int .i64 z) ∧ b0 < W.heap.size by rw [← hz]; exact h.yy.num_at hlt))
 have q2 : (z == 0) = true := beq_iff_eq.2 hy0
 have S0 := Lib.hid (Lc.new (x := x) hE hF hY)
 have d1 : decide ((y.length : Int) > 130) = false := decide_eq_false (by omega)
 simp only [fval_def, caval_def] at va na dr pt bn al S0 ⊢
 have VA := Lib.hid va
 have BO := Lib.hid bo
 have NA := Lib.hid na
 have DR := Lib.hid dr
 have PT := Lib.hid pt
 have BN := Lib.hid bn
 have AL := Lib.hid al
 have KN := Lib.hid kn
 clear hF hv hE hY hbd h0 hlen hc hdk hnl hp1 hp2 va bo na dr pt bn al kn hy0 ey hz hk hEE
 go_enter Tryz.func4, Tryz.ntmps4
 obtain ⟨⟨⟨⟨⟨f0, f1⟩, f2, f3⟩, ⟨c0, c1⟩, c2, c3⟩, ⟨⟨c4, c5⟩, c6, c7⟩, ⟨c8, c9⟩, c10, c11, c12⟩, fl⟩ := S0.out.tree
 go_wp2_with fail
 refine (VA.out _ S0.out).mono ?_
 rintro e w1 ⟨rfl, hb⟩
 have S1 := Lib.hid (S0.out.next hb)
 clear hb f0 f1 f2 f3 c0 c1 c2 c3 c4 c5 c6 c7 c8 c9 c10 c11 c12 fl S0
 obtain ⟨⟨⟨⟨⟨f0, f1⟩, f2, f3⟩, ⟨c0, c1⟩, c2, c3⟩, ⟨⟨c4, c5⟩, c6, c7⟩, ⟨c8, c9⟩, c10, c11, c12⟩, fl⟩ := S1.out.tree
 go_wp2_with fail
 refine (BO.out _ S1.out).mono ?_
 rintro e w2 ⟨rfl, hb⟩
 have S2 := Lib.hid (S1.out.next hb)
 clear hb f0 f1 f2 f3 c0 c1 c2 c3 c4 c5 c6 c7 c8 c9 c10 c11 c12 fl S1
 obtain ⟨⟨⟨⟨⟨f0, f1⟩, f2, f3⟩, ⟨c0, c1⟩, c2, c3⟩, ⟨⟨c4, c5⟩, c6, c7⟩, ⟨c8, c9⟩, c10, c11, c12⟩, fl⟩ := S2.out.tree
 go_wp2_with fail
 refine (NA.out _ S2.out).mono ?_
 rintro e w3 ⟨An, cn, rfl, hrd, -, hb⟩
 have S3 := Lib.hid (S2.out.next hb)
 have RN := Lib.hid hrd
 clear hrd
 clear hb f0 f1 f2 f3 c0 c1 c2 c3 c4 c5 c6 c7 c8 c9 c10 c11 c12 fl S2
 obtain ⟨⟨⟨⟨⟨f0, f1⟩, f2, f3⟩, ⟨c0, c1⟩, c2, c3⟩, ⟨⟨c4, c5⟩, c6, c7⟩, ⟨c8, c9⟩, c10, c11, c12⟩, fl⟩ := S3.out.tree
 go_wp2_with fail
 refine (DR.out _ S3.out).mono ?_
 rintro e w4 ⟨rfl, hb⟩
 have S4 := Lib.hid (S3.out.next hb)
 have RNN := Lib.hid ((RN.out.below hb (Nat.le_refl _)).more hb.size)
 clear RN
 have RN := RNN
 clear RNN
 clear hb f0 f1 f2 f3 c0 c1 c2 c3 c4 c5 c6 c7 c8 c9 c10 c11 c12 fl S3
 obtain ⟨⟨⟨⟨⟨f0, f1⟩, f2, f3⟩, ⟨c0, c1⟩, c2, c3⟩, ⟨⟨c4, c5⟩, c6, c7⟩, ⟨c8, c9⟩, c10, c11, c12⟩, fl⟩ := S4.out.tree
 go_wp2_with fail
 refine (PT.out _ S4.out).mono ?_
 rintro e w5 ⟨rfl, hb⟩
 have S5 := Lib.hid (S4.out.next hb)
 have RNN := Lib.hid ((RN.out.below hb (Nat.le_refl _)).more hb.size)
 clear RN
 have RN := RNN
 clear RNN
 clear hb f0 f1 f2 f3 c0 c1 c2 c3 c4 c5 c6 c7 c8 c9 c10 c11 c12 fl S4
 obtain ⟨⟨⟨⟨⟨f0, f1⟩, f2, f3⟩, ⟨c0, c1⟩, c2, c3⟩, ⟨⟨c4, c5⟩, c6, c7⟩, ⟨c8, c9⟩, c10, c11, c12⟩, fl⟩ := S5.out.tree
 obtain ⟨y0, y0l⟩ := HZ.out _ S5.out
 go_wp2_with fail
 refine (KN.out An cn _ S5.out RN.out).mono ?_
 rintro e w6 ⟨rfl, hb⟩
 have S6 := Lib.hid (S5.out.next hb)
 have RNN := Lib.hid ((RN.out.below hb (Nat.le_refl _)).more hb.size)
 clear RN
 have RN := RNN
 clear RNN
 clear hb f0 f1 f2 f3 c0 c1 c2 c3 c4 c5 c6 c7 c8 c9 c10 c11 c12 fl S5 y0 y0l
 obtain ⟨⟨⟨⟨⟨f0, f1⟩, f2, f3⟩, ⟨c0, c1⟩, c2, c3⟩, ⟨⟨c4, c5⟩, c6, c7⟩, ⟨c8, c9⟩, c10, c11, c12⟩, fl⟩ := S6.out.tree
 go_wp2_with fail
 refine (BN.out _ S6.out).mono ?_
 rintro e w7 ⟨Ab, cb, rfl, hrd, -, hb⟩
 have S7 := Lib.hid (S6.out.next hb)
 have RNN := Lib.hid ((RN.out.below hb (Nat.le_refl _)).more hb.size)
 clear RN
 have RN := RNN
 clear RNN
 have RB := Lib.hid hrd
 clear hrd
 clear hb f0 f1 f2 f3 c0 c1 c2 c3 c4 c5 c6 c7 c8 c9 c10 c11 c12 fl S6
 obtain ⟨⟨⟨⟨⟨f0, f1⟩, f2, f3⟩, ⟨c0, c1⟩, c2, c3⟩, ⟨⟨c4, c5⟩, c6, c7⟩, ⟨c8, c9⟩, c10, c11, c12⟩, fl⟩ := S7.out.tree
 go_wp2_with fail
 refine (AL.out _ S7.out).mono ?_
 rintro e w8 ⟨rfl, hb⟩
 have S8 := Lib.hid (S7.out.next hb)
 have RNN := Lib.hid ((RN.out.below hb (Nat.le_refl _)).more hb.size)
 clear RN
 have RN := RNN
 clear RNN
 have RBN := Lib.hid ((RB.out.below hb (Nat.le_refl _)).more hb.size)
 clear RB
 have RB := RBN
 clear RBN
 clear hb f0 f1 f2 f3 c0 c1 c2 c3 c4 c5 c6 c7 c8 c9 c10 c11 c12 fl S7
 obtain ⟨⟨⟨⟨⟨f0, f1⟩, f2, f3⟩, ⟨c0, c1⟩, c2, c3⟩, ⟨⟨c4, c5⟩, c6, c7⟩, ⟨c8, c9⟩, c10, c11, c12⟩, fl⟩ := S8.out.tree
 go_wp2_with fail
 refine (SP.out _ S8.out.e).mono ?_
 rintro e w9 ⟨rfl, hb⟩
 have S9 := Lib.hid (S8.out.next hb)
 have RNN := Lib.hid ((RN.out.below hb (Nat.le_refl _)).more hb.size)
 clear RN
 have RN := RNN
 clear RNN
 have RBN := Lib.hid ((RB.out.below hb (Nat.le_refl _)).more hb.size)
 clear RB
 have RB := RBN
 clear RBN
 clear hb f0 f1 f2 f3 c0 c1 c2 c3 c4 c5 c6 c7 c8 c9 c10 c11 c12 fl S8
 obtain ⟨⟨⟨⟨⟨f0, f1⟩, f2, f3⟩, ⟨c0, c1⟩, c2, c3⟩, ⟨⟨c4, c5⟩, c6, c7⟩, ⟨c8, c9⟩, c10, c11, c12⟩, fl⟩ := S9.out.tree
 go_wp2_with fail
 go_ret
 exact ⟨rfl, S9.out.b⟩

set_option maxHeartbeats 4000000 in
theorem means_kn (v : Fv) (f : Dd.Fd) (x : Dd.Ca) (A : Option Addr) (c : Nat) (y : List Int) (hyl : y.length ≤ 9223372036854775807) (w : World) (hE : Env w) (hF : FRw w w.heap.size v f) (hY : Rd w w.heap.size 1 A y.length (icells y)) (hv : Dd.vastF f = false) (hshort : y.length ≤ 130) (hbd : Dd.bndd y = true) (h0 : Dd.fieldE f = 0) (hlen : y.length = Dd.ptsN f) (hy0 : Dd.at_ y 0 = 0) (hk : Dd.keepsL y (Dd.nat f) = false) (hc : Dd.callE f x = 0) :
  Calls Tryz.prog 4 #[fval v f, caval x, .slice A y.length c] w fun e w' => e = .returned (.bool true) ∧ Below w.heap.size w w' := by
 have va := fun W (h : Lc w v f x A y W) => vast_any v f W h.raw
 rw [hv] at va
 have bo := fun W (h : Lc w v f x A y W) => bounded_any A c y W h.yy (by omega)
 rw [hbd] at bo
 have na := fun W (h : Lc w v f x A y W) => Nature_any v f W (h.rd hv)
 have dr := fun W (h : Lc w v f x A y W) => Drawn_any v f A c y W (h.rd hv) h.yy (by omega)
 have hdk : Dd.drw f y = false := by rw [Dd.drw_keeps h0, show (Dd.nat f).all (Dd.keepsI y) = false from hk, Bool.and_false]
 obtain ⟨hnl, hp1, hp2⟩ := Dd.nat_len h0
 rw [show Dd.natureF f = (Dd.nat f, 0) by unfold Dd.natureF; rw [if_neg (by simpa using h0)]] at na
 rw [show Dd.drawnF f y = (false, 0) by unfold Dd.drawnF; rw [if_neg (by simpa using h0), hdk]] at dr
 have pt := fun W (h : Lc w v f x A y W) => Points_any v f W (h.rd hv)
 rw [show Dd.ptsF f = (Dd.ptsN f : Int) by unfold Dd.ptsF; rw [if_pos h0]] at pt
 have bn := fun W (h : Lc w v f x A y W) => dBounds_any v f x 1 W (h.rd hv) h.e.sn
 have al := fun W (h : Lc w v f x A y W) => dAllows_any v f x A c y W (h.rd hv) h.e.sn h.yy (by omega)
 have kn := fun An cn W (h : Lc w v f x A y W) (hr : Rd W W.heap.size 4 An (Dd.nat f).length (bcells (Dd.nat f))) => keeps_any An cn (Dd.nat f) A c y W hr h.yy (by omega) (by omega) hbd
 rw [hk] at kn
 rw [show Dd.boundsF f x 1 = (Dd.bnds f x 1, 0) by unfold Dd.boundsF; rw [if_neg (by simpa using hc), if_pos (by decide)]] at bn
 rw [show Dd.allowsF f x y = (false, 1) by unfold Dd.allowsF; rw [if_neg (by simpa using hc), hdk]; rfl] at al
 have SP := Lib.hid (fun W (h : Env W) => spoken_any W h)
 have q1 : ((y.length : Int) == (Dd.ptsN f : Int)) = true := beq_iff_eq.2 (by omega)
 have hlt : 0 < y.length := by omega
 have hlti : (0 : Int) < (y.length : Int) := by omega
 have ey : Dd.at_ y 0 = y[0] := by unfold Dd.at_; rw [show (0 : Int).toNat = 0 from rfl, List.getElem?_eq_getElem hlt]; rfl
 obtain ⟨b0, o0, rfl, -, -⟩ := hY.num hlt
 obtain ⟨z, hz⟩ : ∃ z, y[0] = z := ⟨_, rfl⟩
 rw [ey, hz] at hy0
 have HZ := Lib.hid (fun W (h : Lc w v f x (some ⟨b0, o0, none⟩) y W) => (show W.cell? ⟨b0, o0, none⟩ = some (.int .i64 z) ∧ b0 < W.heap.size by rw [← hz]; exact h.yy.num_at hlt))
 have q2 : (z == 0) = true := beq_iff_eq.2 hy0
 have S0 := Lib.hid (Lc.new (x := x) hE hF hY)
 have d1 : decide ((y.length : Int) > 130) = false := decide_eq_false (by omega)
 simp only [fval_def, caval_def] at va na dr pt bn al S0 ⊢
 have VA := Lib.hid va
 have BO := Lib.hid bo
 have NA := Lib.hid na
 have DR := Lib.hid dr
 have PT := Lib.hid pt
 have BN := Lib.hid bn
 have AL := Lib.hid al
 have KN := Lib.hid kn
 clear hF hv hE hY hbd h0 hlen hc hdk hnl hp1 hp2 va bo na dr pt bn al kn hy0 ey hz hk
 go_enter Tryz.func4, Tryz.ntmps4
 obtain ⟨⟨⟨⟨⟨f0, f1⟩, f2, f3⟩, ⟨c0, c1⟩, c2, c3⟩, ⟨⟨c4, c5⟩, c6, c7⟩, ⟨c8, c9⟩, c10, c11, c12⟩, fl⟩ := S0.out.tree
 go_wp2_with fail
 refine (VA.out _ S0.out).mono ?_
 rintro e w1 ⟨rfl, hb⟩
 have S1 := Lib.hid (S0.out.next hb)
 clear hb f0 f1 f2 f3 c0 c1 c2 c3 c4 c5 c6 c7 c8 c9 c10 c11 c12 fl S0
 obtain ⟨⟨⟨⟨⟨f0, f1⟩, f2, f3⟩, ⟨c0, c1⟩, c2, c3⟩, ⟨⟨c4, c5⟩, c6, c7⟩, ⟨c8, c9⟩, c10, c11, c12⟩, fl⟩ := S1.out.tree
 go_wp2_with fail
 refine (BO.out _ S1.out).mono ?_
 rintro e w2 ⟨rfl, hb⟩
 have S2 := Lib.hid (S1.out.next hb)
 clear hb f0 f1 f2 f3 c0 c1 c2 c3 c4 c5 c6 c7 c8 c9 c10 c11 c12 fl S1
 obtain ⟨⟨⟨⟨⟨f0, f1⟩, f2, f3⟩, ⟨c0, c1⟩, c2, c3⟩, ⟨⟨c4, c5⟩, c6, c7⟩, ⟨c8, c9⟩, c10, c11, c12⟩, fl⟩ := S2.out.tree
 go_wp2_with fail
 refine (NA.out _ S2.out).mono ?_
 rintro e w3 ⟨An, cn, rfl, hrd, -, hb⟩
 have S3 := Lib.hid (S2.out.next hb)
 have RN := Lib.hid hrd
 clear hrd
 clear hb f0 f1 f2 f3 c0 c1 c2 c3 c4 c5 c6 c7 c8 c9 c10 c11 c12 fl S2
 obtain ⟨⟨⟨⟨⟨f0, f1⟩, f2, f3⟩, ⟨c0, c1⟩, c2, c3⟩, ⟨⟨c4, c5⟩, c6, c7⟩, ⟨c8, c9⟩, c10, c11, c12⟩, fl⟩ := S3.out.tree
 go_wp2_with fail
 refine (DR.out _ S3.out).mono ?_
 rintro e w4 ⟨rfl, hb⟩
 have S4 := Lib.hid (S3.out.next hb)
 have RNN := Lib.hid ((RN.out.below hb (Nat.le_refl _)).more hb.size)
 clear RN
 have RN := RNN
 clear RNN
 clear hb f0 f1 f2 f3 c0 c1 c2 c3 c4 c5 c6 c7 c8 c9 c10 c11 c12 fl S3
 obtain ⟨⟨⟨⟨⟨f0, f1⟩, f2, f3⟩, ⟨c0, c1⟩, c2, c3⟩, ⟨⟨c4, c5⟩, c6, c7⟩, ⟨c8, c9⟩, c10, c11, c12⟩, fl⟩ := S4.out.tree
 go_wp2_with fail
 refine (PT.out _ S4.out).mono ?_
 rintro e w5 ⟨rfl, hb⟩
 have S5 := Lib.hid (S4.out.next hb)
 have RNN := Lib.hid ((RN.out.below hb (Nat.le_refl _)).more hb.size)
 clear RN
 have RN := RNN
 clear RNN
 clear hb f0 f1 f2 f3 c0 c1 c2 c3 c4 c5 c6 c7 c8 c9 c10 c11 c12 fl S4
 obtain ⟨⟨⟨⟨⟨f0, f1⟩, f2, f3⟩, ⟨c0, c1⟩, c2, c3⟩, ⟨⟨c4, c5⟩, c6, c7⟩, ⟨c8, c9⟩, c10, c11, c12⟩, fl⟩ := S5.out.tree
 obtain ⟨y0, y0l⟩ := HZ.out _ S5.out
 go_wp2_with fail
 refine (KN.out An cn _ S5.out RN.out).mono ?_
 rintro e w6 ⟨rfl, hb⟩
 have S6 := Lib.hid (S5.out.next hb)
 have RNN := Lib.hid ((RN.out.below hb (Nat.le_refl _)).more hb.size)
 clear RN
 have RN := RNN
 clear RNN
 clear hb f0 f1 f2 f3 c0 c1 c2 c3 c4 c5 c6 c7 c8 c9 c10 c11 c12 fl S5 y0 y0l
 obtain ⟨⟨⟨⟨⟨f0, f1⟩, f2, f3⟩, ⟨c0, c1⟩, c2, c3⟩, ⟨⟨c4, c5⟩, c6, c7⟩, ⟨c8, c9⟩, c10, c11, c12⟩, fl⟩ := S6.out.tree
 go_wp2_with fail
 refine (BN.out _ S6.out).mono ?_
 rintro e w7 ⟨Ab, cb, rfl, hrd, -, hb⟩
 have S7 := Lib.hid (S6.out.next hb)
 have RNN := Lib.hid ((RN.out.below hb (Nat.le_refl _)).more hb.size)
 clear RN
 have RN := RNN
 clear RNN
 have RB := Lib.hid hrd
 clear hrd
 clear hb f0 f1 f2 f3 c0 c1 c2 c3 c4 c5 c6 c7 c8 c9 c10 c11 c12 fl S6
 obtain ⟨⟨⟨⟨⟨f0, f1⟩, f2, f3⟩, ⟨c0, c1⟩, c2, c3⟩, ⟨⟨c4, c5⟩, c6, c7⟩, ⟨c8, c9⟩, c10, c11, c12⟩, fl⟩ := S7.out.tree
 go_wp2_with fail
 refine (AL.out _ S7.out).mono ?_
 rintro e w8 ⟨rfl, hb⟩
 have S8 := Lib.hid (S7.out.next hb)
 have RNN := Lib.hid ((RN.out.below hb (Nat.le_refl _)).more hb.size)
 clear RN
 have RN := RNN
 clear RNN
 have RBN := Lib.hid ((RB.out.below hb (Nat.le_refl _)).more hb.size)
 clear RB
 have RB := RBN
 clear RBN
 clear hb f0 f1 f2 f3 c0 c1 c2 c3 c4 c5 c6 c7 c8 c9 c10 c11 c12 fl S7
 obtain ⟨⟨⟨⟨⟨f0, f1⟩, f2, f3⟩, ⟨c0, c1⟩, c2, c3⟩, ⟨⟨c4, c5⟩, c6, c7⟩, ⟨c8, c9⟩, c10, c11, c12⟩, fl⟩ := S8.out.tree
 go_wp2_with fail
 refine (SP.out _ S8.out.e).mono ?_
 rintro e w9 ⟨rfl, hb⟩
 have S9 := Lib.hid (S8.out.next hb)
 have RNN := Lib.hid ((RN.out.below hb (Nat.le_refl _)).more hb.size)
 clear RN
 have RN := RNN
 clear RNN
 have RBN := Lib.hid ((RB.out.below hb (Nat.le_refl _)).more hb.size)
 clear RB
 have RB := RBN
 clear RBN
 clear hb f0 f1 f2 f3 c0 c1 c2 c3 c4 c5 c6 c7 c8 c9 c10 c11 c12 fl S8
 obtain ⟨⟨⟨⟨⟨f0, f1⟩, f2, f3⟩, ⟨c0, c1⟩, c2, c3⟩, ⟨⟨c4, c5⟩, c6, c7⟩, ⟨c8, c9⟩, c10, c11, c12⟩, fl⟩ := S9.out.tree
 go_wp2_with fail
 go_ret
 exact ⟨rfl, S9.out.b⟩

set_option maxHeartbeats 4000000 in
theorem means_te (v : Fv) (f : Dd.Fd) (x : Dd.Ca) (A : Option Addr) (c : Nat) (y : List Int) (hyl : y.length ≤ 9223372036854775807) (w : World) (hE : Env w) (hF : FRw w w.heap.size v f) (hY : Rd w w.heap.size 1 A y.length (icells y)) (hv : Dd.vastF f = false) (hshort : y.length ≤ 130) (hbd : Dd.bndd y = true) (h0 : Dd.fieldE f = 0) (hlen : y.length = Dd.ptsN f) (hy0 : Dd.at_ y 0 = 0) (hk : Dd.keepsL y (Dd.nat f) = true) (hc : ¬ Dd.callE f x = 0) :
  Calls Tryz.prog 4 #[fval v f, caval x, .slice A y.length c] w fun e w' => e = .returned (.bool true) ∧ Below w.heap.size w w' := by
 have va := fun W (h : Lc w v f x A y W) => vast_any v f W h.raw
 rw [hv] at va
 have bo := fun W (h : Lc w v f x A y W) => bounded_any A c y W h.yy (by omega)
 rw [hbd] at bo
 have na := fun W (h : Lc w v f x A y W) => Nature_any v f W (h.rd hv)
 have dr := fun W (h : Lc w v f x A y W) => Drawn_any v f A c y W (h.rd hv) h.yy (by omega)
 have hdk : Dd.drw f y = true := by rw [Dd.drw_keeps h0, decide_eq_true hlen, decide_eq_true hy0, show (Dd.nat f).all (Dd.keepsI y) = true from hk]; rfl
 obtain ⟨hnl, hp1, hp2⟩ := Dd.nat_len h0
 rw [show Dd.natureF f = (Dd.nat f, 0) by unfold Dd.natureF; rw [if_neg (by simpa using h0)]] at na
 rw [show Dd.drawnF f y = (true, 0) by unfold Dd.drawnF; rw [if_neg (by simpa using h0), hdk]] at dr
 have pt := fun W (h : Lc w v f x A y W) => Points_any v f W (h.rd hv)
 rw [show Dd.ptsF f = (Dd.ptsN f : Int) by unfold Dd.ptsF; rw [if_pos h0]] at pt
 have bn := fun W (h : Lc w v f x A y W) => dBounds_any v f x 1 W (h.rd hv) h.e.sn
 have al := fun W (h : Lc w v f x A y W) => dAllows_any v f x A c y W (h.rd hv) h.e.sn h.yy (by omega)
 have kn := fun An cn W (h : Lc w v f x A y W) (hr : Rd W W.heap.size 4 An (Dd.nat f).length (bcells (Dd.nat f))) => keeps_any An cn (Dd.nat f) A c y W hr h.yy (by omega) (by omega) hbd
 rw [hk] at kn
 rw [show Dd.boundsF f x 1 = ([], Dd.callE f x) by unfold Dd.boundsF; rw [if_pos hc]] at bn
 rw [show Dd.allowsF f x y = (false, Dd.callE f x) by unfold Dd.allowsF; rw [if_pos hc]] at al
 obtain ⟨E, hEE⟩ : ∃ E, Dd.callE f x = E := ⟨_, rfl⟩
 rw [hEE] at bn al hc
 have e1 : (E != 0) = true := by simp [hc]
 have SP := Lib.hid (fun W (h : Env W) => spoken_any W h)
 have q1 : ((y.length : Int) == (Dd.ptsN f : Int)) = true := beq_iff_eq.2 (by omega)
 have hlt : 0 < y.length := by omega
 have hlti : (0 : Int) < (y.length : Int) := by omega
 have ey : Dd.at_ y 0 = y[0] := by unfold Dd.at_; rw [show (0 : Int).toNat = 0 from rfl, List.getElem?_eq_getElem hlt]; rfl
 obtain ⟨b0, o0, rfl, -, -⟩ := hY.num hlt
 obtain ⟨z, hz⟩ : ∃ z, y[0] = z := ⟨_, rfl⟩
 rw [ey, hz] at hy0
 have HZ := Lib.hid (fun W (h : Lc w v f x (some ⟨b0, o0, none⟩) y W) => (show W.cell? ⟨b0, o0, none⟩ = some (.int .i64 z) ∧ b0 < W.heap.size by rw [← hz]; exact h.yy.num_at hlt))
 have q2 : (z == 0) = true := beq_iff_eq.2 hy0
 have S0 := Lib.hid (Lc.new (x := x) hE hF hY)
 have d1 : decide ((y.length : Int) > 130) = false := decide_eq_false (by omega)
 simp only [fval_def, caval_def] at va na dr pt bn al S0 ⊢
 have VA := Lib.hid va
 have BO := Lib.hid bo
 have NA := Lib.hid na
 have DR := Lib.hid dr
 have PT := Lib.hid pt
 have BN := Lib.hid bn
 have AL := Lib.hid al
 have KN := Lib.hid kn
 clear hF hv hE hY hbd h0 hlen hc hdk hnl hp1 hp2 va bo na dr pt bn al kn hy0 ey hz hk hEE
 go_enter Tryz.func4, Tryz.ntmps4
 obtain ⟨⟨⟨⟨⟨f0, f1⟩, f2, f3⟩, ⟨c0, c1⟩, c2, c3⟩, ⟨⟨c4, c5⟩, c6, c7⟩, ⟨c8, c9⟩, c10, c11, c12⟩, fl⟩ := S0.out.tree
 go_wp2_with fail
 refine (VA.out _ S0.out).mono ?_
 rintro e w1 ⟨rfl, hb⟩
 have S1 := Lib.hid (S0.out.next hb)
 clear hb f0 f1 f2 f3 c0 c1 c2 c3 c4 c5 c6 c7 c8 c9 c10 c11 c12 fl S0
 obtain ⟨⟨⟨⟨⟨f0, f1⟩, f2, f3⟩, ⟨c0, c1⟩, c2, c3⟩, ⟨⟨c4, c5⟩, c6, c7⟩, ⟨c8, c9⟩, c10, c11, c12⟩, fl⟩ := S1.out.tree
 go_wp2_with fail
 refine (BO.out _ S1.out).mono ?_
 rintro e w2 ⟨rfl, hb⟩
 have S2 := Lib.hid (S1.out.next hb)
 clear hb f0 f1 f2 f3 c0 c1 c2 c3 c4 c5 c6 c7 c8 c9 c10 c11 c12 fl S1
 obtain ⟨⟨⟨⟨⟨f0, f1⟩, f2, f3⟩, ⟨c0, c1⟩, c2, c3⟩, ⟨⟨c4, c5⟩, c6, c7⟩, ⟨c8, c9⟩, c10, c11, c12⟩, fl⟩ := S2.out.tree
 go_wp2_with fail
 refine (NA.out _ S2.out).mono ?_
 rintro e w3 ⟨An, cn, rfl, hrd, -, hb⟩
 have S3 := Lib.hid (S2.out.next hb)
 have RN := Lib.hid hrd
 clear hrd
 clear hb f0 f1 f2 f3 c0 c1 c2 c3 c4 c5 c6 c7 c8 c9 c10 c11 c12 fl S2
 obtain ⟨⟨⟨⟨⟨f0, f1⟩, f2, f3⟩, ⟨c0, c1⟩, c2, c3⟩, ⟨⟨c4, c5⟩, c6, c7⟩, ⟨c8, c9⟩, c10, c11, c12⟩, fl⟩ := S3.out.tree
 go_wp2_with fail
 refine (DR.out _ S3.out).mono ?_
 rintro e w4 ⟨rfl, hb⟩
 have S4 := Lib.hid (S3.out.next hb)
 have RNN := Lib.hid ((RN.out.below hb (Nat.le_refl _)).more hb.size)
 clear RN
 have RN := RNN
 clear RNN
 clear hb f0 f1 f2 f3 c0 c1 c2 c3 c4 c5 c6 c7 c8 c9 c10 c11 c12 fl S3
 obtain ⟨⟨⟨⟨⟨f0, f1⟩, f2, f3⟩, ⟨c0, c1⟩, c2, c3⟩, ⟨⟨c4, c5⟩, c6, c7⟩, ⟨c8, c9⟩, c10, c11, c12⟩, fl⟩ := S4.out.tree
 go_wp2_with fail
 refine (PT.out _ S4.out).mono ?_
 rintro e w5 ⟨rfl, hb⟩
 have S5 := Lib.hid (S4.out.next hb)
 have RNN := Lib.hid ((RN.out.below hb (Nat.le_refl _)).more hb.size)
 clear RN
 have RN := RNN
 clear RNN
 clear hb f0 f1 f2 f3 c0 c1 c2 c3 c4 c5 c6 c7 c8 c9 c10 c11 c12 fl S4
 obtain ⟨⟨⟨⟨⟨f0, f1⟩, f2, f3⟩, ⟨c0, c1⟩, c2, c3⟩, ⟨⟨c4, c5⟩, c6, c7⟩, ⟨c8, c9⟩, c10, c11, c12⟩, fl⟩ := S5.out.tree
 obtain ⟨y0, y0l⟩ := HZ.out _ S5.out
 go_wp2_with fail
 refine (KN.out An cn _ S5.out RN.out).mono ?_
 rintro e w6 ⟨rfl, hb⟩
 have S6 := Lib.hid (S5.out.next hb)
 have RNN := Lib.hid ((RN.out.below hb (Nat.le_refl _)).more hb.size)
 clear RN
 have RN := RNN
 clear RNN
 clear hb f0 f1 f2 f3 c0 c1 c2 c3 c4 c5 c6 c7 c8 c9 c10 c11 c12 fl S5 y0 y0l
 obtain ⟨⟨⟨⟨⟨f0, f1⟩, f2, f3⟩, ⟨c0, c1⟩, c2, c3⟩, ⟨⟨c4, c5⟩, c6, c7⟩, ⟨c8, c9⟩, c10, c11, c12⟩, fl⟩ := S6.out.tree
 go_wp2_with fail
 refine (BN.out _ S6.out).mono ?_
 rintro e w7 ⟨Ab, cb, rfl, hrd, -, hb⟩
 have S7 := Lib.hid (S6.out.next hb)
 have RNN := Lib.hid ((RN.out.below hb (Nat.le_refl _)).more hb.size)
 clear RN
 have RN := RNN
 clear RNN
 have RB := Lib.hid hrd
 clear hrd
 clear hb f0 f1 f2 f3 c0 c1 c2 c3 c4 c5 c6 c7 c8 c9 c10 c11 c12 fl S6
 obtain ⟨⟨⟨⟨⟨f0, f1⟩, f2, f3⟩, ⟨c0, c1⟩, c2, c3⟩, ⟨⟨c4, c5⟩, c6, c7⟩, ⟨c8, c9⟩, c10, c11, c12⟩, fl⟩ := S7.out.tree
 go_wp2_with fail
 refine (AL.out _ S7.out).mono ?_
 rintro e w8 ⟨rfl, hb⟩
 have S8 := Lib.hid (S7.out.next hb)
 have RNN := Lib.hid ((RN.out.below hb (Nat.le_refl _)).more hb.size)
 clear RN
 have RN := RNN
 clear RNN
 have RBN := Lib.hid ((RB.out.below hb (Nat.le_refl _)).more hb.size)
 clear RB
 have RB := RBN
 clear RBN
 clear hb f0 f1 f2 f3 c0 c1 c2 c3 c4 c5 c6 c7 c8 c9 c10 c11 c12 fl S7
 obtain ⟨⟨⟨⟨⟨f0, f1⟩, f2, f3⟩, ⟨c0, c1⟩, c2, c3⟩, ⟨⟨c4, c5⟩, c6, c7⟩, ⟨c8, c9⟩, c10, c11, c12⟩, fl⟩ := S8.out.tree
 go_wp2_with fail
 refine (SP.out _ S8.out.e).mono ?_
 rintro e w9 ⟨rfl, hb⟩
 have S9 := Lib.hid (S8.out.next hb)
 have RNN := Lib.hid ((RN.out.below hb (Nat.le_refl _)).more hb.size)
 clear RN
 have RN := RNN
 clear RNN
 have RBN := Lib.hid ((RB.out.below hb (Nat.le_refl _)).more hb.size)
 clear RB
 have RB := RBN
 clear RBN
 clear hb f0 f1 f2 f3 c0 c1 c2 c3 c4 c5 c6 c7 c8 c9 c10 c11 c12 fl S8
 obtain ⟨⟨⟨⟨⟨f0, f1⟩, f2, f3⟩, ⟨c0, c1⟩, c2, c3⟩, ⟨⟨c4, c5⟩, c6, c7⟩, ⟨c8, c9⟩, c10, c11, c12⟩, fl⟩ := S9.out.tree
 go_wp2_with fail
 go_ret
 exact ⟨rfl, S9.out.b⟩

set_option maxHeartbeats 4000000 in
theorem means_tn (v : Fv) (f : Dd.Fd) (x : Dd.Ca) (A : Option Addr) (c : Nat) (y : List Int) (hyl : y.length ≤ 9223372036854775807) (w : World) (hE : Env w) (hF : FRw w w.heap.size v f) (hY : Rd w w.heap.size 1 A y.length (icells y)) (hv : Dd.vastF f = false) (hshort : y.length ≤ 130) (hbd : Dd.bndd y = true) (h0 : Dd.fieldE f = 0) (hlen : y.length = Dd.ptsN f) (hy0 : Dd.at_ y 0 = 0) (hk : Dd.keepsL y (Dd.nat f) = true) (hc : Dd.callE f x = 0) :
  Calls Tryz.prog 4 #[fval v f, caval x, .slice A y.length c] w fun e w' => e = .returned (.bool true) ∧ Below w.heap.size w w' := by
 have va := fun W (h : Lc w v f x A y W) => vast_any v f W h.raw
 rw [hv] at va
 have bo := fun W (h : Lc w v f x A y W) => bounded_any A c y W h.yy (by omega)
 rw [hbd] at bo
 have na := fun W (h : Lc w v f x A y W) => Nature_any v f W (h.rd hv)
 have dr := fun W (h : Lc w v f x A y W) => Drawn_any v f A c y W (h.rd hv) h.yy (by omega)
 have hdk : Dd.drw f y = true := by rw [Dd.drw_keeps h0, decide_eq_true hlen, decide_eq_true hy0, show (Dd.nat f).all (Dd.keepsI y) = true from hk]; rfl
 obtain ⟨hnl, hp1, hp2⟩ := Dd.nat_len h0
 rw [show Dd.natureF f = (Dd.nat f, 0) by unfold Dd.natureF; rw [if_neg (by simpa using h0)]] at na
 rw [show Dd.drawnF f y = (true, 0) by unfold Dd.drawnF; rw [if_neg (by simpa using h0), hdk]] at dr
 have pt := fun W (h : Lc w v f x A y W) => Points_any v f W (h.rd hv)
 rw [show Dd.ptsF f = (Dd.ptsN f : Int) by unfold Dd.ptsF; rw [if_pos h0]] at pt
 have bn := fun W (h : Lc w v f x A y W) => dBounds_any v f x 1 W (h.rd hv) h.e.sn
 have al := fun W (h : Lc w v f x A y W) => dAllows_any v f x A c y W (h.rd hv) h.e.sn h.yy (by omega)
 have kn := fun An cn W (h : Lc w v f x A y W) (hr : Rd W W.heap.size 4 An (Dd.nat f).length (bcells (Dd.nat f))) => keeps_any An cn (Dd.nat f) A c y W hr h.yy (by omega) (by omega) hbd
 rw [hk] at kn
 rw [show Dd.boundsF f x 1 = (Dd.bnds f x 1, 0) by unfold Dd.boundsF; rw [if_neg (by simpa using hc), if_pos (by decide)]] at bn
 rw [show Dd.allowsF f x y = (Dd.keepsL y (Dd.bnds f x 1), 0) by unfold Dd.allowsF; rw [if_neg (by simpa using hc), hdk, if_pos rfl, Dd.allows_keeps (Dd.callE_zero hc).2 hdk 1]; rfl] at al
 have hbl : (Dd.bnds f x 1).length ≤ 9223372036854775807 := by
  rw [Dd.bnds_len]
  have h1 := Dd.gaps_len hc
  have h2 := (hF.small hv).l1
  omega
 have kb := fun An cn W (h : Lc w v f x A y W) (hr : Rd W W.heap.size 4 An (Dd.bnds f x 1).length (bcells (Dd.bnds f x 1))) => keeps_any An cn (Dd.bnds f x 1) A c y W hr h.yy (by omega) hbl hbd
 obtain ⟨K, hK⟩ : ∃ K, Dd.keepsL y (Dd.bnds f x 1) = K := ⟨_, rfl⟩
 rw [hK] at kb al
 have SP := Lib.hid (fun W (h : Env W) => spoken_any W h)
 have q1 : ((y.length : Int) == (Dd.ptsN f : Int)) = true := beq_iff_eq.2 (by omega)
 have hlt : 0 < y.length := by omega
 have hlti : (0 : Int) < (y.length : Int) := by omega
 have ey : Dd.at_ y 0 = y[0] := by unfold Dd.at_; rw [show (0 : Int).toNat = 0 from rfl, List.getElem?_eq_getElem hlt]; rfl
 obtain ⟨b0, o0, rfl, -, -⟩ := hY.num hlt
 obtain ⟨z, hz⟩ : ∃ z, y[0] = z := ⟨_, rfl⟩
 rw [ey, hz] at hy0
 have HZ := Lib.hid (fun W (h : Lc w v f x (some ⟨b0, o0, none⟩) y W) => (show W.cell? ⟨b0, o0, none⟩ = some (.int .i64 z) ∧ b0 < W.heap.size by rw [← hz]; exact h.yy.num_at hlt))
 have q2 : (z == 0) = true := beq_iff_eq.2 hy0
 have S0 := Lib.hid (Lc.new (x := x) hE hF hY)
 have d1 : decide ((y.length : Int) > 130) = false := decide_eq_false (by omega)
 simp only [fval_def, caval_def] at va na dr pt bn al S0 ⊢
 have VA := Lib.hid va
 have BO := Lib.hid bo
 have NA := Lib.hid na
 have DR := Lib.hid dr
 have PT := Lib.hid pt
 have BN := Lib.hid bn
 have AL := Lib.hid al
 have KN := Lib.hid kn
 have KB := Lib.hid kb
 clear hF hv hE hY hbd h0 hlen hc hdk hnl hp1 hp2 va bo na dr pt bn al kn kb hy0 ey hz hk hbl hK
 go_enter Tryz.func4, Tryz.ntmps4
 obtain ⟨⟨⟨⟨⟨f0, f1⟩, f2, f3⟩, ⟨c0, c1⟩, c2, c3⟩, ⟨⟨c4, c5⟩, c6, c7⟩, ⟨c8, c9⟩, c10, c11, c12⟩, fl⟩ := S0.out.tree
 go_wp2_with fail
 refine (VA.out _ S0.out).mono ?_
 rintro e w1 ⟨rfl, hb⟩
 have S1 := Lib.hid (S0.out.next hb)
 clear hb f0 f1 f2 f3 c0 c1 c2 c3 c4 c5 c6 c7 c8 c9 c10 c11 c12 fl S0
 obtain ⟨⟨⟨⟨⟨f0, f1⟩, f2, f3⟩, ⟨c0, c1⟩, c2, c3⟩, ⟨⟨c4, c5⟩, c6, c7⟩, ⟨c8, c9⟩, c10, c11, c12⟩, fl⟩ := S1.out.tree
 go_wp2_with fail
 refine (BO.out _ S1.out).mono ?_
 rintro e w2 ⟨rfl, hb⟩
 have S2 := Lib.hid (S1.out.next hb)
 clear hb f0 f1 f2 f3 c0 c1 c2 c3 c4 c5 c6 c7 c8 c9 c10 c11 c12 fl S1
 obtain ⟨⟨⟨⟨⟨f0, f1⟩, f2, f3⟩, ⟨c0, c1⟩, c2, c3⟩, ⟨⟨c4, c5⟩, c6, c7⟩, ⟨c8, c9⟩, c10, c11, c12⟩, fl⟩ := S2.out.tree
 go_wp2_with fail
 refine (NA.out _ S2.out).mono ?_
 rintro e w3 ⟨An, cn, rfl, hrd, -, hb⟩
 have S3 := Lib.hid (S2.out.next hb)
 have RN := Lib.hid hrd
 clear hrd
 clear hb f0 f1 f2 f3 c0 c1 c2 c3 c4 c5 c6 c7 c8 c9 c10 c11 c12 fl S2
 obtain ⟨⟨⟨⟨⟨f0, f1⟩, f2, f3⟩, ⟨c0, c1⟩, c2, c3⟩, ⟨⟨c4, c5⟩, c6, c7⟩, ⟨c8, c9⟩, c10, c11, c12⟩, fl⟩ := S3.out.tree
 go_wp2_with fail
 refine (DR.out _ S3.out).mono ?_
 rintro e w4 ⟨rfl, hb⟩
 have S4 := Lib.hid (S3.out.next hb)
 have RNN := Lib.hid ((RN.out.below hb (Nat.le_refl _)).more hb.size)
 clear RN
 have RN := RNN
 clear RNN
 clear hb f0 f1 f2 f3 c0 c1 c2 c3 c4 c5 c6 c7 c8 c9 c10 c11 c12 fl S3
 obtain ⟨⟨⟨⟨⟨f0, f1⟩, f2, f3⟩, ⟨c0, c1⟩, c2, c3⟩, ⟨⟨c4, c5⟩, c6, c7⟩, ⟨c8, c9⟩, c10, c11, c12⟩, fl⟩ := S4.out.tree
 go_wp2_with fail
 refine (PT.out _ S4.out).mono ?_
 rintro e w5 ⟨rfl, hb⟩
 have S5 := Lib.hid (S4.out.next hb)
 have RNN := Lib.hid ((RN.out.below hb (Nat.le_refl _)).more hb.size)
 clear RN
 have RN := RNN
 clear RNN
 clear hb f0 f1 f2 f3 c0 c1 c2 c3 c4 c5 c6 c7 c8 c9 c10 c11 c12 fl S4
 obtain ⟨⟨⟨⟨⟨f0, f1⟩, f2, f3⟩, ⟨c0, c1⟩, c2, c3⟩, ⟨⟨c4, c5⟩, c6, c7⟩, ⟨c8, c9⟩, c10, c11, c12⟩, fl⟩ := S5.out.tree
 obtain ⟨y0, y0l⟩ := HZ.out _ S5.out
 go_wp2_with fail
 refine (KN.out An cn _ S5.out RN.out).mono ?_
 rintro e w6 ⟨rfl, hb⟩
 have S6 := Lib.hid (S5.out.next hb)
 have RNN := Lib.hid ((RN.out.below hb (Nat.le_refl _)).more hb.size)
 clear RN
 have RN := RNN
 clear RNN
 clear hb f0 f1 f2 f3 c0 c1 c2 c3 c4 c5 c6 c7 c8 c9 c10 c11 c12 fl S5 y0 y0l
 obtain ⟨⟨⟨⟨⟨f0, f1⟩, f2, f3⟩, ⟨c0, c1⟩, c2, c3⟩, ⟨⟨c4, c5⟩, c6, c7⟩, ⟨c8, c9⟩, c10, c11, c12⟩, fl⟩ := S6.out.tree
 go_wp2_with fail
 refine (BN.out _ S6.out).mono ?_
 rintro e w7 ⟨Ab, cb, rfl, hrd, -, hb⟩
 have S7 := Lib.hid (S6.out.next hb)
 have RNN := Lib.hid ((RN.out.below hb (Nat.le_refl _)).more hb.size)
 clear RN
 have RN := RNN
 clear RNN
 have RB := Lib.hid hrd
 clear hrd
 clear hb f0 f1 f2 f3 c0 c1 c2 c3 c4 c5 c6 c7 c8 c9 c10 c11 c12 fl S6
 obtain ⟨⟨⟨⟨⟨f0, f1⟩, f2, f3⟩, ⟨c0, c1⟩, c2, c3⟩, ⟨⟨c4, c5⟩, c6, c7⟩, ⟨c8, c9⟩, c10, c11, c12⟩, fl⟩ := S7.out.tree
 go_wp2_with fail
 refine (AL.out _ S7.out).mono ?_
 rintro e w8 ⟨rfl, hb⟩
 have S8 := Lib.hid (S7.out.next hb)
 have RNN := Lib.hid ((RN.out.below hb (Nat.le_refl _)).more hb.size)
 clear RN
 have RN := RNN
 clear RNN
 have RBN := Lib.hid ((RB.out.below hb (Nat.le_refl _)).more hb.size)
 clear RB
 have RB := RBN
 clear RBN
 clear hb f0 f1 f2 f3 c0 c1 c2 c3 c4 c5 c6 c7 c8 c9 c10 c11 c12 fl S7
 obtain ⟨⟨⟨⟨⟨f0, f1⟩, f2, f3⟩, ⟨c0, c1⟩, c2, c3⟩, ⟨⟨c4, c5⟩, c6, c7⟩, ⟨c8, c9⟩, c10, c11, c12⟩, fl⟩ := S8.out.tree
 go_wp2_with fail
 refine (SP.out _ S8.out.e).mono ?_
 rintro e w9 ⟨rfl, hb⟩
 have S9 := Lib.hid (S8.out.next hb)
 have RNN := Lib.hid ((RN.out.below hb (Nat.le_refl _)).more hb.size)
 clear RN
 have RN := RNN
 clear RNN
 have RBN := Lib.hid ((RB.out.below hb (Nat.le_refl _)).more hb.size)
 clear RB
 have RB := RBN
 clear RBN
 clear hb f0 f1 f2 f3 c0 c1 c2 c3 c4 c5 c6 c7 c8 c9 c10 c11 c12 fl S8
 obtain ⟨⟨⟨⟨⟨f0, f1⟩, f2, f3⟩, ⟨c0, c1⟩, c2, c3⟩, ⟨⟨c4, c5⟩, c6, c7⟩, ⟨c8, c9⟩, c10, c11, c12⟩, fl⟩ := S9.out.tree
 go_wp2_with fail
 refine (KB.out Ab cb _ S9.out RB.out).mono ?_
 rintro e w10 ⟨rfl, hb⟩
 have S10 := Lib.hid (S9.out.next hb)
 have RNN := Lib.hid ((RN.out.below hb (Nat.le_refl _)).more hb.size)
 clear RN
 have RN := RNN
 clear RNN
 have RBN := Lib.hid ((RB.out.below hb (Nat.le_refl _)).more hb.size)
 clear RB
 have RB := RBN
 clear RBN
 clear hb f0 f1 f2 f3 c0 c1 c2 c3 c4 c5 c6 c7 c8 c9 c10 c11 c12 fl S9
 obtain ⟨⟨⟨⟨⟨f0, f1⟩, f2, f3⟩, ⟨c0, c1⟩, c2, c3⟩, ⟨⟨c4, c5⟩, c6, c7⟩, ⟨c8, c9⟩, c10, c11, c12⟩, fl⟩ := S10.out.tree
 go_wp2_with fail
 go_ret
 exact ⟨rfl, S10.out.b⟩

theorem deedMeans_any (v : Fv) (f : Dd.Fd) (x : Dd.Ca) (A : Option Addr) (c : Nat) (y : List Int) (hyl : y.length ≤ 9223372036854775807) (w : World) (hE : Env w) (hF : FRw w w.heap.size v f) (hY : Rd w w.heap.size 1 A y.length (icells y)) :
  Calls Tryz.prog 4 #[fval v f, caval x, .slice A y.length c] w fun e w' => e = .returned (.bool true) ∧ Below w.heap.size w w' := by
 rcases hv : Dd.vastF f with _ | _
 ·by_cases hs : 130 < y.length
  ·exact means_long v f x A c y hyl w hE hF hY hv hs
  have hs' : y.length ≤ 130 := by omega
  rcases hbd : Dd.bndd y with _ | _
  ·exact means_wild v f x A c y hyl w hE hF hY hv hs' hbd
  by_cases h0 : Dd.fieldE f = 0
  ·by_cases hlen : y.length = Dd.ptsN f
   ·by_cases hy0 : Dd.at_ y 0 = 0
    ·rcases hk : Dd.keepsL y (Dd.nat f) with _ | _
     ·by_cases hc : Dd.callE f x = 0
      ·exact means_kn v f x A c y hyl w hE hF hY hv hs' hbd h0 hlen hy0 hk hc
      ·exact means_ke v f x A c y hyl w hE hF hY hv hs' hbd h0 hlen hy0 hk hc
     ·by_cases hc : Dd.callE f x = 0
      ·exact means_tn v f x A c y hyl w hE hF hY hv hs' hbd h0 hlen hy0 hk hc
      ·exact means_te v f x A c y hyl w hE hF hY hv hs' hbd h0 hlen hy0 hk hc
    ·by_cases hc : Dd.callE f x = 0
     ·exact means_yn v f x A c y hyl w hE hF hY hv hs' hbd h0 hlen hy0 hc
     ·exact means_ye v f x A c y hyl w hE hF hY hv hs' hbd h0 hlen hy0 hc
   ·by_cases hc : Dd.callE f x = 0
    ·exact means_ln v f x A c y hyl w hE hF hY hv hs' hbd h0 hlen hc
    ·exact means_le v f x A c y hyl w hE hF hY hv hs' hbd h0 hlen hc
  ·exact means_bad v f x A c y hyl w hE hF hY hv hs' hbd h0
 ·exact means_vast v f x A c y hyl w hE hF hY hv

end Go.Proofs.YtcbeefbefapicaaGreatDoor
