/-
  DeedTurns: the law's walk.
-/
import Derived.Test.YtcbeefbefapicaaGreatDoorBn42
import Derived.Test.YtcbeefbefapicaaGreatDoorBn16
import Derived.Test.YtcbeefbefapicaaGreatDoorBn43
import Derived.Test.YtcbeefbefapicaaGreatDoorBn33
set_option linter.unusedVariables false
set_option linter.unusedSimpArgs false
namespace Go.Proofs.YtcbeefbefapicaaGreatDoor
open Go.RowKit
set_option maxRecDepth 100000

theorem Dd.turn_call {f : Dd.Fd} {x : Dd.Ca} (h : Dd.callE f x = 0) : Dd.callE f (Dd.turnC x) = 0 := by
 obtain ⟨h1, h2⟩ := Dd.callE_zero h
 unfold Dd.callE
 rw [if_neg (by simpa using h1)]
 exact Dd.back_call h2
theorem Dd.turn_allows {f : Dd.Fd} {x : Dd.Ca} (h : Dd.callE f x = 0) (y : List Int) : Dd.allowsF f (Dd.turnC x) y = Dd.allowsF f x y := by
 unfold Dd.allowsF
 rw [Dd.turn_call h, h, if_neg (show ¬ ((0 : Int) ≠ 0) by decide), if_neg (show ¬ ((0 : Int) ≠ 0) by decide), Dd.back_allows (Dd.callE_zero h).2]
theorem Dd.turn_same {f : Dd.Fd} {x : Dd.Ca} (h : Dd.callE f x = 0) : Dd.sameF f x (Dd.turnC x) = (true, 0) := by
 unfold Dd.sameF
 rw [Dd.turn_call h, h, if_neg (show ¬ ((0 : Int) ≠ 0) by decide), if_neg (show ¬ ((0 : Int) ≠ 0) by decide), Dd.back_same (Dd.callE_zero h).2]
theorem Dd.turn_back {f : Dd.Fd} {x : Dd.Ca} (h : Dd.callE f x = 0) : Dd.backF f x = (Dd.turnC x, 0) ∧ Dd.backF f (Dd.turnC x) = (x, 0) := by
 unfold Dd.backF
 rw [Dd.turn_call h, h, if_neg (show ¬ ((0 : Int) ≠ 0) by decide), if_neg (show ¬ ((0 : Int) ≠ 0) by decide), Dd.turnC_turnC (Dd.callE_zero h).2]
 exact ⟨rfl, rfl⟩

set_option maxHeartbeats 8000000 in
theorem turns_vast (v : Fv) (f : Dd.Fd) (x : Dd.Ca) (A : Option Addr) (c : Nat) (y : List Int) (hyl : y.length ≤ 9223372036854775807) (w : World) (hE : Env w) (hF : FRw w w.heap.size v f) (hY : Rd w w.heap.size 1 A y.length (icells y)) (hv : Dd.vastF f = true) :
  Calls Tryz.prog 6 #[fval v f, caval x, .slice A y.length c] w fun e w' => e = .returned (.bool true) ∧ Below w.heap.size w w' := by
 have va := fun W (h : Lc w v f x A y W) => vast_any v f W h.raw
 rw [hv] at va
 have SP := Lib.hid (fun W (h : Env W) => spoken_any W h)
 have S0 := Lib.hid (Lc.new (x := x) hE hF hY)
 simp only [fval_def, caval_def] at va S0 ⊢
 have VA := Lib.hid va
 clear hF hv hE va hY
 go_enter Tryz.func6, Tryz.ntmps6
 obtain ⟨⟨⟨⟨⟨f0, f1⟩, f2, f3⟩, ⟨c0, c1⟩, c2, c3⟩, ⟨⟨c4, c5⟩, c6, c7⟩, ⟨c8, c9⟩, c10, c11, c12⟩, fl⟩ := S0.out.tree
 go_wp2_with fail
 refine (VA.out _ S0.out).mono ?_
 rintro e w1 ⟨rfl, hb⟩
 have S1 := Lib.hid (S0.out.next hb)
 clear hb f0 f1 f2 f3 c0 c1 c2 c3 c4 c5 c6 c7 c8 c9 c10 c11 c12 fl S0
 obtain ⟨⟨⟨⟨⟨f0, f1⟩, f2, f3⟩, ⟨c0, c1⟩, c2, c3⟩, ⟨⟨c4, c5⟩, c6, c7⟩, ⟨c8, c9⟩, c10, c11, c12⟩, fl⟩ := S1.out.tree
 go_wp2_with fail
 refine (SP.out _ S1.out.e).mono ?_
 rintro e w2 ⟨rfl, hb⟩
 have S2 := Lib.hid (S1.out.next hb)
 clear hb f0 f1 f2 f3 c0 c1 c2 c3 c4 c5 c6 c7 c8 c9 c10 c11 c12 fl S1
 obtain ⟨⟨⟨⟨⟨f0, f1⟩, f2, f3⟩, ⟨c0, c1⟩, c2, c3⟩, ⟨⟨c4, c5⟩, c6, c7⟩, ⟨c8, c9⟩, c10, c11, c12⟩, fl⟩ := S2.out.tree
 go_wp2_with fail
 go_ret
 exact ⟨rfl, S2.out.b⟩

set_option maxHeartbeats 8000000 in
theorem turns_long (v : Fv) (f : Dd.Fd) (x : Dd.Ca) (A : Option Addr) (c : Nat) (y : List Int) (hyl : y.length ≤ 9223372036854775807) (w : World) (hE : Env w) (hF : FRw w w.heap.size v f) (hY : Rd w w.heap.size 1 A y.length (icells y)) (hv : Dd.vastF f = false) (hlong : 130 < y.length) :
  Calls Tryz.prog 6 #[fval v f, caval x, .slice A y.length c] w fun e w' => e = .returned (.bool true) ∧ Below w.heap.size w w' := by
 have va := fun W (h : Lc w v f x A y W) => vast_any v f W h.raw
 rw [hv] at va
 have SP := Lib.hid (fun W (h : Env W) => spoken_any W h)
 have S0 := Lib.hid (Lc.new (x := x) hE hF hY)
 have d1 : decide ((y.length : Int) > 130) = true := decide_eq_true (by omega)
 simp only [fval_def, caval_def] at va S0 ⊢
 have VA := Lib.hid va
 clear hF hv hE va hY hlong
 go_enter Tryz.func6, Tryz.ntmps6
 obtain ⟨⟨⟨⟨⟨f0, f1⟩, f2, f3⟩, ⟨c0, c1⟩, c2, c3⟩, ⟨⟨c4, c5⟩, c6, c7⟩, ⟨c8, c9⟩, c10, c11, c12⟩, fl⟩ := S0.out.tree
 go_wp2_with fail
 refine (VA.out _ S0.out).mono ?_
 rintro e w1 ⟨rfl, hb⟩
 have S1 := Lib.hid (S0.out.next hb)
 clear hb f0 f1 f2 f3 c0 c1 c2 c3 c4 c5 c6 c7 c8 c9 c10 c11 c12 fl S0
 obtain ⟨⟨⟨⟨⟨f0, f1⟩, f2, f3⟩, ⟨c0, c1⟩, c2, c3⟩, ⟨⟨c4, c5⟩, c6, c7⟩, ⟨c8, c9⟩, c10, c11, c12⟩, fl⟩ := S1.out.tree
 go_wp2_with fail
 refine (SP.out _ S1.out.e).mono ?_
 rintro e w2 ⟨rfl, hb⟩
 have S2 := Lib.hid (S1.out.next hb)
 clear hb f0 f1 f2 f3 c0 c1 c2 c3 c4 c5 c6 c7 c8 c9 c10 c11 c12 fl S1
 obtain ⟨⟨⟨⟨⟨f0, f1⟩, f2, f3⟩, ⟨c0, c1⟩, c2, c3⟩, ⟨⟨c4, c5⟩, c6, c7⟩, ⟨c8, c9⟩, c10, c11, c12⟩, fl⟩ := S2.out.tree
 go_wp2_with fail
 go_ret
 exact ⟨rfl, S2.out.b⟩

set_option maxHeartbeats 8000000 in
theorem turns_bad (v : Fv) (f : Dd.Fd) (x : Dd.Ca) (A : Option Addr) (c : Nat) (y : List Int) (hyl : y.length ≤ 9223372036854775807) (w : World) (hE : Env w) (hF : FRw w w.heap.size v f) (hY : Rd w w.heap.size 1 A y.length (icells y)) (hv : Dd.vastF f = false) (hshort : y.length ≤ 130) (hc : ¬ Dd.callE f x = 0) :
  Calls Tryz.prog 6 #[fval v f, caval x, .slice A y.length c] w fun e w' => e = .returned (.bool true) ∧ Below w.heap.size w w' := by
 have va := fun W (h : Lc w v f x A y W) => vast_any v f W h.raw
 rw [hv] at va
 have bk := fun W (h : Lc w v f x A y W) => dBack_any v f x W (h.rd hv) h.e.sn
 have cc := fun W (h : Lc w v f x A y W) => dCheckCall_any v f x W (h.rd hv) h.e.sn
 rw [show Dd.backF f x = (Dd.ca0, Dd.callE f x) by unfold Dd.backF; rw [if_pos hc]] at bk
 obtain ⟨E, hEE⟩ : ∃ E, Dd.callE f x = E := ⟨_, rfl⟩
 rw [hEE] at bk cc hc
 have e1 : (E != 0) = true := by simp [hc]
 obtain ⟨z, hz⟩ : ∃ z, Dd.ca0 = z := ⟨_, rfl⟩
 rw [hz] at bk
 have SP := Lib.hid (fun W (h : Env W) => spoken_any W h)
 have S0 := Lib.hid (Lc.new (x := x) hE hF hY)
 have d1 : decide ((y.length : Int) > 130) = false := decide_eq_false (by omega)
 simp only [fval_def, caval_def] at va bk cc S0 ⊢
 have VA := Lib.hid va
 have BK := Lib.hid bk
 have CC := Lib.hid cc
 clear hF hv hE va hY bk cc hc hEE hz
 go_enter Tryz.func6, Tryz.ntmps6
 obtain ⟨⟨⟨⟨⟨f0, f1⟩, f2, f3⟩, ⟨c0, c1⟩, c2, c3⟩, ⟨⟨c4, c5⟩, c6, c7⟩, ⟨c8, c9⟩, c10, c11, c12⟩, fl⟩ := S0.out.tree
 go_wp2_with fail
 refine (VA.out _ S0.out).mono ?_
 rintro e w1 ⟨rfl, hb⟩
 have S1 := Lib.hid (S0.out.next hb)
 clear hb f0 f1 f2 f3 c0 c1 c2 c3 c4 c5 c6 c7 c8 c9 c10 c11 c12 fl S0
 obtain ⟨⟨⟨⟨⟨f0, f1⟩, f2, f3⟩, ⟨c0, c1⟩, c2, c3⟩, ⟨⟨c4, c5⟩, c6, c7⟩, ⟨c8, c9⟩, c10, c11, c12⟩, fl⟩ := S1.out.tree
 go_wp2_with fail
 refine (BK.out _ S1.out).mono ?_
 rintro e w2 ⟨rfl, hb⟩
 have S2 := Lib.hid (S1.out.next hb)
 clear hb f0 f1 f2 f3 c0 c1 c2 c3 c4 c5 c6 c7 c8 c9 c10 c11 c12 fl S1
 have hbn := Below.rowNew ((Below.refl w2.heap.size w2).alloc (Nat.le_refl _) (.cells #[.int .u8 0, .int .i64 0, .int .i64 0, .int .i64 0, .int .i64 0, .int .i64 0, .int .i64 0, .int .i64 0, .int .i64 0, .int .i64 0, .int .i64 0, .int .i64 0, .int .i64 0] 42)) (Nat.le_refl _) #[.int .u8 z.k, .int .i64 z.l, .int .i64 z.o, .int .i64 z.a, .int .i64 z.b, .int .i64 z.s, .int .i64 z.e, .int .i64 z.c.b, .int .i64 z.c.n, .int .i64 z.c.l, .int .i64 z.c.y, .int .i64 z.c.w, .int .i64 z.c.s]
 have S2n := Lib.hid (S2.out.next hbn)
 have KD := Lib.hid ((Bk.new w2 42 #[.int .u8 0, .int .i64 0, .int .i64 0, .int .i64 0, .int .i64 0, .int .i64 0, .int .i64 0, .int .i64 0, .int .i64 0, .int .i64 0, .int .i64 0, .int .i64 0, .int .i64 0]).row #[.int .u8 z.k, .int .i64 z.l, .int .i64 z.o, .int .i64 z.a, .int .i64 z.b, .int .i64 z.s, .int .i64 z.e, .int .i64 z.c.b, .int .i64 z.c.n, .int .i64 z.c.l, .int .i64 z.c.y, .int .i64 z.c.w, .int .i64 z.c.s])
 clear hbn S2
 go_upto_region 4 with (refine wpList_store_row rfl 42 (.tmp 7) (.tmp 29) rfl w2.heap.size _ rfl rfl 42 _ (Bk.new w2 42 #[.int .u8 0, .int .i64 0, .int .i64 0, .int .i64 0, .int .i64 0, .int .i64 0, .int .i64 0, .int .i64 0, .int .i64 0, .int .i64 0, .int .i64 0, .int .i64 0, .int .i64 0]) (by kernel_rfl) rfl (by kernel_rfl) ?_)
 refine wp_cutW (fun V => Lc w v f x A y V ∧ Bk V w2.heap.size 42 #[.int .u8 z.k, .int .i64 z.l, .int .i64 z.o, .int .i64 z.a, .int .i64 z.b, .int .i64 z.s, .int .i64 z.e, .int .i64 z.c.b, .int .i64 z.c.n, .int .i64 z.c.l, .int .i64 z.c.y, .int .i64 z.c.w, .int .i64 z.c.s]) ⟨S2n.out, KD.out⟩ ?_
 rintro W2 ⟨hs, hKD⟩
 clear KD
 have KD := Lib.hid hKD
 clear hKD
 have S3 := Lib.hid hs
 clear hs S2n
 obtain ⟨⟨⟨⟨⟨f0, f1⟩, f2, f3⟩, ⟨c0, c1⟩, c2, c3⟩, ⟨⟨c4, c5⟩, c6, c7⟩, ⟨c8, c9⟩, c10, c11, c12⟩, fl⟩ := S3.out.tree
 obtain ⟨⟨⟨⟨d0, d1, d2⟩, d3, d4, d5⟩, ⟨d6, d7, d8⟩, d9, d10, d11, d12⟩, dl⟩ := ca_tree KD.out
 go_wp2_with fail
 refine (SP.out _ S3.out.e).mono ?_
 rintro e w4 ⟨rfl, hb⟩
 have S4 := Lib.hid (S3.out.next hb)
 have KDN := Lib.hid (KD.out.below hb KD.out.lt)
 clear KD
 have KD := KDN
 clear KDN
 clear hb f0 f1 f2 f3 c0 c1 c2 c3 c4 c5 c6 c7 c8 c9 c10 c11 c12 fl d0 d1 d2 d3 d4 d5 d6 d7 d8 d9 d10 d11 d12 dl S3
 obtain ⟨⟨⟨⟨⟨f0, f1⟩, f2, f3⟩, ⟨c0, c1⟩, c2, c3⟩, ⟨⟨c4, c5⟩, c6, c7⟩, ⟨c8, c9⟩, c10, c11, c12⟩, fl⟩ := S4.out.tree
 obtain ⟨⟨⟨⟨d0, d1, d2⟩, d3, d4, d5⟩, ⟨d6, d7, d8⟩, d9, d10, d11, d12⟩, dl⟩ := ca_tree KD.out
 go_wp2_with fail
 refine (CC.out _ S4.out).mono ?_
 rintro e w5 ⟨rfl, hb⟩
 have S5 := Lib.hid (S4.out.next hb)
 have KDN := Lib.hid (KD.out.below hb KD.out.lt)
 clear KD
 have KD := KDN
 clear KDN
 clear hb f0 f1 f2 f3 c0 c1 c2 c3 c4 c5 c6 c7 c8 c9 c10 c11 c12 fl d0 d1 d2 d3 d4 d5 d6 d7 d8 d9 d10 d11 d12 dl S4
 obtain ⟨⟨⟨⟨⟨f0, f1⟩, f2, f3⟩, ⟨c0, c1⟩, c2, c3⟩, ⟨⟨c4, c5⟩, c6, c7⟩, ⟨c8, c9⟩, c10, c11, c12⟩, fl⟩ := S5.out.tree
 obtain ⟨⟨⟨⟨d0, d1, d2⟩, d3, d4, d5⟩, ⟨d6, d7, d8⟩, d9, d10, d11, d12⟩, dl⟩ := ca_tree KD.out
 go_wp2_with fail
 go_ret
 exact ⟨rfl, S5.out.b⟩

set_option maxHeartbeats 8000000 in
theorem turns_main (v : Fv) (f : Dd.Fd) (x : Dd.Ca) (A : Option Addr) (c : Nat) (y : List Int) (hyl : y.length ≤ 9223372036854775807) (w : World) (hE : Env w) (hF : FRw w w.heap.size v f) (hY : Rd w w.heap.size 1 A y.length (icells y)) (hv : Dd.vastF f = false) (hshort : y.length ≤ 130) (hc : Dd.callE f x = 0) :
  Calls Tryz.prog 6 #[fval v f, caval x, .slice A y.length c] w fun e w' => e = .returned (.bool true) ∧ Below w.heap.size w w' := by
 have va := fun W (h : Lc w v f x A y W) => vast_any v f W h.raw
 rw [hv] at va
 have bk := fun W (h : Lc w v f x A y W) => dBack_any v f x W (h.rd hv) h.e.sn
 have bk2 := fun W (h : Lc w v f x A y W) => dBack_any v f (Dd.turnC x) W (h.rd hv) h.e.sn
 have sa := fun W (h : Lc w v f x A y W) => dSame_any v f x (Dd.turnC x) W (h.rd hv) h.e.sn
 have al := fun W (h : Lc w v f x A y W) => dAllows_any v f x A c y W (h.rd hv) h.e.sn h.yy (by omega)
 have al2 := fun W (h : Lc w v f x A y W) => dAllows_any v f (Dd.turnC x) A c y W (h.rd hv) h.e.sn h.yy (by omega)
 rw [(Dd.turn_back hc).1] at bk
 rw [(Dd.turn_back hc).2] at bk2
 rw [Dd.turn_same hc] at sa
 rw [Dd.turn_allows hc] at al2
 obtain ⟨z, hz⟩ : ∃ z, Dd.turnC x = z := ⟨_, rfl⟩
 rw [hz] at bk bk2 sa al2
 obtain ⟨P, hP⟩ : ∃ P, (Dd.allowsF f x y).1 = P := ⟨_, rfl⟩
 obtain ⟨Q, hQ⟩ : ∃ Q, (Dd.allowsF f x y).2 = Q := ⟨_, rfl⟩
 rw [hP, hQ] at al al2
 have SP := Lib.hid (fun W (h : Env W) => spoken_any W h)
 have S0 := Lib.hid (Lc.new (x := x) hE hF hY)
 have d1 : decide ((y.length : Int) > 130) = false := decide_eq_false (by omega)
 simp only [fval_def, caval_def] at va bk bk2 sa al al2 S0 ⊢
 have VA := Lib.hid va
 have BK := Lib.hid bk
 have BK2 := Lib.hid bk2
 have SA := Lib.hid sa
 have AL := Lib.hid al
 have AL2 := Lib.hid al2
 clear hF hv hE va hY bk bk2 sa al al2 hc hz hP hQ
 go_enter Tryz.func6, Tryz.ntmps6
 obtain ⟨⟨⟨⟨⟨f0, f1⟩, f2, f3⟩, ⟨c0, c1⟩, c2, c3⟩, ⟨⟨c4, c5⟩, c6, c7⟩, ⟨c8, c9⟩, c10, c11, c12⟩, fl⟩ := S0.out.tree
 go_wp2_with fail
 refine (VA.out _ S0.out).mono ?_
 rintro e w1 ⟨rfl, hb⟩
 have S1 := Lib.hid (S0.out.next hb)
 clear hb f0 f1 f2 f3 c0 c1 c2 c3 c4 c5 c6 c7 c8 c9 c10 c11 c12 fl S0
 obtain ⟨⟨⟨⟨⟨f0, f1⟩, f2, f3⟩, ⟨c0, c1⟩, c2, c3⟩, ⟨⟨c4, c5⟩, c6, c7⟩, ⟨c8, c9⟩, c10, c11, c12⟩, fl⟩ := S1.out.tree
 go_wp2_with fail
 refine (BK.out _ S1.out).mono ?_
 rintro e w2 ⟨rfl, hb⟩
 have S2 := Lib.hid (S1.out.next hb)
 clear hb f0 f1 f2 f3 c0 c1 c2 c3 c4 c5 c6 c7 c8 c9 c10 c11 c12 fl S1
 have hbn := Below.rowNew ((Below.refl w2.heap.size w2).alloc (Nat.le_refl _) (.cells #[.int .u8 0, .int .i64 0, .int .i64 0, .int .i64 0, .int .i64 0, .int .i64 0, .int .i64 0, .int .i64 0, .int .i64 0, .int .i64 0, .int .i64 0, .int .i64 0, .int .i64 0] 42)) (Nat.le_refl _) #[.int .u8 z.k, .int .i64 z.l, .int .i64 z.o, .int .i64 z.a, .int .i64 z.b, .int .i64 z.s, .int .i64 z.e, .int .i64 z.c.b, .int .i64 z.c.n, .int .i64 z.c.l, .int .i64 z.c.y, .int .i64 z.c.w, .int .i64 z.c.s]
 have S2n := Lib.hid (S2.out.next hbn)
 have KD := Lib.hid ((Bk.new w2 42 #[.int .u8 0, .int .i64 0, .int .i64 0, .int .i64 0, .int .i64 0, .int .i64 0, .int .i64 0, .int .i64 0, .int .i64 0, .int .i64 0, .int .i64 0, .int .i64 0, .int .i64 0]).row #[.int .u8 z.k, .int .i64 z.l, .int .i64 z.o, .int .i64 z.a, .int .i64 z.b, .int .i64 z.s, .int .i64 z.e, .int .i64 z.c.b, .int .i64 z.c.n, .int .i64 z.c.l, .int .i64 z.c.y, .int .i64 z.c.w, .int .i64 z.c.s])
 clear hbn S2
 go_upto_region 4 with (refine wpList_store_row rfl 42 (.tmp 7) (.tmp 29) rfl w2.heap.size _ rfl rfl 42 _ (Bk.new w2 42 #[.int .u8 0, .int .i64 0, .int .i64 0, .int .i64 0, .int .i64 0, .int .i64 0, .int .i64 0, .int .i64 0, .int .i64 0, .int .i64 0, .int .i64 0, .int .i64 0, .int .i64 0]) (by kernel_rfl) rfl (by kernel_rfl) ?_)
 refine wp_cutW (fun V => Lc w v f x A y V ∧ Bk V w2.heap.size 42 #[.int .u8 z.k, .int .i64 z.l, .int .i64 z.o, .int .i64 z.a, .int .i64 z.b, .int .i64 z.s, .int .i64 z.e, .int .i64 z.c.b, .int .i64 z.c.n, .int .i64 z.c.l, .int .i64 z.c.y, .int .i64 z.c.w, .int .i64 z.c.s]) ⟨S2n.out, KD.out⟩ ?_
 rintro W2 ⟨hs, hKD⟩
 clear KD
 have KD := Lib.hid hKD
 clear hKD
 have S3 := Lib.hid hs
 clear hs S2n
 obtain ⟨⟨⟨⟨⟨f0, f1⟩, f2, f3⟩, ⟨c0, c1⟩, c2, c3⟩, ⟨⟨c4, c5⟩, c6, c7⟩, ⟨c8, c9⟩, c10, c11, c12⟩, fl⟩ := S3.out.tree
 obtain ⟨⟨⟨⟨d0, d1, d2⟩, d3, d4, d5⟩, ⟨d6, d7, d8⟩, d9, d10, d11, d12⟩, dl⟩ := ca_tree KD.out
 go_wp2_with fail
 refine (BK2.out _ S3.out).mono ?_
 rintro e w4 ⟨rfl, hb⟩
 have S4 := Lib.hid (S3.out.next hb)
 have KDN := Lib.hid (KD.out.below hb KD.out.lt)
 clear KD
 have KD := KDN
 clear KDN
 clear hb f0 f1 f2 f3 c0 c1 c2 c3 c4 c5 c6 c7 c8 c9 c10 c11 c12 fl d0 d1 d2 d3 d4 d5 d6 d7 d8 d9 d10 d11 d12 dl S3
 have hbn := Below.rowNew ((Below.refl w4.heap.size w4).alloc (Nat.le_refl _) (.cells #[.int .u8 0, .int .i64 0, .int .i64 0, .int .i64 0, .int .i64 0, .int .i64 0, .int .i64 0, .int .i64 0, .int .i64 0, .int .i64 0, .int .i64 0, .int .i64 0, .int .i64 0] 42)) (Nat.le_refl _) #[.int .u8 x.k, .int .i64 x.l, .int .i64 x.o, .int .i64 x.a, .int .i64 x.b, .int .i64 x.s, .int .i64 x.e, .int .i64 x.c.b, .int .i64 x.c.n, .int .i64 x.c.l, .int .i64 x.c.y, .int .i64 x.c.w, .int .i64 x.c.s]
 have S4n := Lib.hid (S4.out.next hbn)
 have KB := Lib.hid ((Bk.new w4 42 #[.int .u8 0, .int .i64 0, .int .i64 0, .int .i64 0, .int .i64 0, .int .i64 0, .int .i64 0, .int .i64 0, .int .i64 0, .int .i64 0, .int .i64 0, .int .i64 0, .int .i64 0]).row #[.int .u8 x.k, .int .i64 x.l, .int .i64 x.o, .int .i64 x.a, .int .i64 x.b, .int .i64 x.s, .int .i64 x.e, .int .i64 x.c.b, .int .i64 x.c.n, .int .i64 x.c.l, .int .i64 x.c.y, .int .i64 x.c.w, .int .i64 x.c.s])
 have KDN := Lib.hid (KD.out.below hbn KD.out.lt)
 clear KD
 have KD := KDN
 clear KDN
 clear hbn S4
 go_upto_region 7 with (refine wpList_store_row rfl 42 (.tmp 9) (.tmp 45) rfl w4.heap.size _ rfl rfl 42 _ (Bk.new w4 42 #[.int .u8 0, .int .i64 0, .int .i64 0, .int .i64 0, .int .i64 0, .int .i64 0, .int .i64 0, .int .i64 0, .int .i64 0, .int .i64 0, .int .i64 0, .int .i64 0, .int .i64 0]) (by kernel_rfl) rfl (by kernel_rfl) ?_)
 refine wp_cutW (fun V => Lc w v f x A y V ∧ Bk V w2.heap.size 42 #[.int .u8 z.k, .int .i64 z.l, .int .i64 z.o, .int .i64 z.a, .int .i64 z.b, .int .i64 z.s, .int .i64 z.e, .int .i64 z.c.b, .int .i64 z.c.n, .int .i64 z.c.l, .int .i64 z.c.y, .int .i64 z.c.w, .int .i64 z.c.s] ∧ Bk V w4.heap.size 42 #[.int .u8 x.k, .int .i64 x.l, .int .i64 x.o, .int .i64 x.a, .int .i64 x.b, .int .i64 x.s, .int .i64 x.e, .int .i64 x.c.b, .int .i64 x.c.n, .int .i64 x.c.l, .int .i64 x.c.y, .int .i64 x.c.w, .int .i64 x.c.s]) ⟨S4n.out, KD.out, KB.out⟩ ?_
 rintro W4 ⟨hs, hKD, hKB⟩
 clear KD
 have KD := Lib.hid hKD
 clear hKD
 clear KB
 have KB := Lib.hid hKB
 clear hKB
 have S5 := Lib.hid hs
 clear hs S4n
 obtain ⟨⟨⟨⟨⟨f0, f1⟩, f2, f3⟩, ⟨c0, c1⟩, c2, c3⟩, ⟨⟨c4, c5⟩, c6, c7⟩, ⟨c8, c9⟩, c10, c11, c12⟩, fl⟩ := S5.out.tree
 obtain ⟨⟨⟨⟨d0, d1, d2⟩, d3, d4, d5⟩, ⟨d6, d7, d8⟩, d9, d10, d11, d12⟩, dl⟩ := ca_tree KD.out
 obtain ⟨⟨⟨⟨b0, b1, b2⟩, b3, b4, b5⟩, ⟨b6, b7, b8⟩, b9, b10, b11, b12⟩, bl⟩ := ca_tree KB.out
 go_wp2_with fail
 refine (SA.out _ S5.out).mono ?_
 rintro e w6 ⟨rfl, hb⟩
 have S6 := Lib.hid (S5.out.next hb)
 have KDN := Lib.hid (KD.out.below hb KD.out.lt)
 clear KD
 have KD := KDN
 clear KDN
 have KBN := Lib.hid (KB.out.below hb KB.out.lt)
 clear KB
 have KB := KBN
 clear KBN
 clear hb f0 f1 f2 f3 c0 c1 c2 c3 c4 c5 c6 c7 c8 c9 c10 c11 c12 fl d0 d1 d2 d3 d4 d5 d6 d7 d8 d9 d10 d11 d12 dl b0 b1 b2 b3 b4 b5 b6 b7 b8 b9 b10 b11 b12 bl S5
 obtain ⟨⟨⟨⟨⟨f0, f1⟩, f2, f3⟩, ⟨c0, c1⟩, c2, c3⟩, ⟨⟨c4, c5⟩, c6, c7⟩, ⟨c8, c9⟩, c10, c11, c12⟩, fl⟩ := S6.out.tree
 obtain ⟨⟨⟨⟨d0, d1, d2⟩, d3, d4, d5⟩, ⟨d6, d7, d8⟩, d9, d10, d11, d12⟩, dl⟩ := ca_tree KD.out
 obtain ⟨⟨⟨⟨b0, b1, b2⟩, b3, b4, b5⟩, ⟨b6, b7, b8⟩, b9, b10, b11, b12⟩, bl⟩ := ca_tree KB.out
 go_wp2_with fail
 refine (AL.out _ S6.out).mono ?_
 rintro e w7 ⟨rfl, hb⟩
 have S7 := Lib.hid (S6.out.next hb)
 have KDN := Lib.hid (KD.out.below hb KD.out.lt)
 clear KD
 have KD := KDN
 clear KDN
 have KBN := Lib.hid (KB.out.below hb KB.out.lt)
 clear KB
 have KB := KBN
 clear KBN
 clear hb f0 f1 f2 f3 c0 c1 c2 c3 c4 c5 c6 c7 c8 c9 c10 c11 c12 fl d0 d1 d2 d3 d4 d5 d6 d7 d8 d9 d10 d11 d12 dl b0 b1 b2 b3 b4 b5 b6 b7 b8 b9 b10 b11 b12 bl S6
 obtain ⟨⟨⟨⟨⟨f0, f1⟩, f2, f3⟩, ⟨c0, c1⟩, c2, c3⟩, ⟨⟨c4, c5⟩, c6, c7⟩, ⟨c8, c9⟩, c10, c11, c12⟩, fl⟩ := S7.out.tree
 obtain ⟨⟨⟨⟨d0, d1, d2⟩, d3, d4, d5⟩, ⟨d6, d7, d8⟩, d9, d10, d11, d12⟩, dl⟩ := ca_tree KD.out
 obtain ⟨⟨⟨⟨b0, b1, b2⟩, b3, b4, b5⟩, ⟨b6, b7, b8⟩, b9, b10, b11, b12⟩, bl⟩ := ca_tree KB.out
 go_wp2_with fail
 refine (AL2.out _ S7.out).mono ?_
 rintro e w8 ⟨rfl, hb⟩
 have S8 := Lib.hid (S7.out.next hb)
 have KDN := Lib.hid (KD.out.below hb KD.out.lt)
 clear KD
 have KD := KDN
 clear KDN
 have KBN := Lib.hid (KB.out.below hb KB.out.lt)
 clear KB
 have KB := KBN
 clear KBN
 clear hb f0 f1 f2 f3 c0 c1 c2 c3 c4 c5 c6 c7 c8 c9 c10 c11 c12 fl d0 d1 d2 d3 d4 d5 d6 d7 d8 d9 d10 d11 d12 dl b0 b1 b2 b3 b4 b5 b6 b7 b8 b9 b10 b11 b12 bl S7
 obtain ⟨⟨⟨⟨⟨f0, f1⟩, f2, f3⟩, ⟨c0, c1⟩, c2, c3⟩, ⟨⟨c4, c5⟩, c6, c7⟩, ⟨c8, c9⟩, c10, c11, c12⟩, fl⟩ := S8.out.tree
 obtain ⟨⟨⟨⟨d0, d1, d2⟩, d3, d4, d5⟩, ⟨d6, d7, d8⟩, d9, d10, d11, d12⟩, dl⟩ := ca_tree KD.out
 obtain ⟨⟨⟨⟨b0, b1, b2⟩, b3, b4, b5⟩, ⟨b6, b7, b8⟩, b9, b10, b11, b12⟩, bl⟩ := ca_tree KB.out
 go_wp2_with fail
 refine (SP.out _ S8.out.e).mono ?_
 rintro e w9 ⟨rfl, hb⟩
 have S9 := Lib.hid (S8.out.next hb)
 have KDN := Lib.hid (KD.out.below hb KD.out.lt)
 clear KD
 have KD := KDN
 clear KDN
 have KBN := Lib.hid (KB.out.below hb KB.out.lt)
 clear KB
 have KB := KBN
 clear KBN
 clear hb f0 f1 f2 f3 c0 c1 c2 c3 c4 c5 c6 c7 c8 c9 c10 c11 c12 fl d0 d1 d2 d3 d4 d5 d6 d7 d8 d9 d10 d11 d12 dl b0 b1 b2 b3 b4 b5 b6 b7 b8 b9 b10 b11 b12 bl S8
 obtain ⟨⟨⟨⟨⟨f0, f1⟩, f2, f3⟩, ⟨c0, c1⟩, c2, c3⟩, ⟨⟨c4, c5⟩, c6, c7⟩, ⟨c8, c9⟩, c10, c11, c12⟩, fl⟩ := S9.out.tree
 obtain ⟨⟨⟨⟨d0, d1, d2⟩, d3, d4, d5⟩, ⟨d6, d7, d8⟩, d9, d10, d11, d12⟩, dl⟩ := ca_tree KD.out
 obtain ⟨⟨⟨⟨b0, b1, b2⟩, b3, b4, b5⟩, ⟨b6, b7, b8⟩, b9, b10, b11, b12⟩, bl⟩ := ca_tree KB.out
 go_wp2_with fail
 go_ret
 exact ⟨rfl, S9.out.b⟩

theorem deedTurns_any (v : Fv) (f : Dd.Fd) (x : Dd.Ca) (A : Option Addr) (c : Nat) (y : List Int) (hyl : y.length ≤ 9223372036854775807) (w : World) (hE : Env w) (hF : FRw w w.heap.size v f) (hY : Rd w w.heap.size 1 A y.length (icells y)) :
  Calls Tryz.prog 6 #[fval v f, caval x, .slice A y.length c] w fun e w' => e = .returned (.bool true) ∧ Below w.heap.size w w' := by
 rcases hv : Dd.vastF f with _ | _
 ·by_cases hs : 130 < y.length
  ·exact turns_long v f x A c y hyl w hE hF hY hv hs
  have hs' : y.length ≤ 130 := by omega
  by_cases hc : Dd.callE f x = 0
  ·exact turns_main v f x A c y hyl w hE hF hY hv hs' hc
  ·exact turns_bad v f x A c y hyl w hE hF hY hv hs' hc
 ·exact turns_vast v f x A c y hyl w hE hF hY hv

end Go.Proofs.YtcbeefbefapicaaGreatDoor
