/-
  DeedNarrows: the law's walk.
-/
import Derived.Test.YtcbeefbefapicaaGreatDoorBn42
import Derived.Test.YtcbeefbefapicaaGreatDoorBn16
import Derived.Test.YtcbeefbefapicaaGreatDoorBn23
set_option linter.unusedVariables false
set_option linter.unusedSimpArgs false
namespace Go.Proofs.YtcbeefbefapicaaGreatDoor
open Go.RowKit
set_option maxRecDepth 100000

theorem Dd.allows_ok {f : Dd.Fd} {x : Dd.Ca} {y : List Int} (h : (Dd.allowsF f x y).2 = 0) : Dd.callE f x = 0 ∧ Dd.drw f y = true ∧ (Dd.allowsF f x y).1 = (Dd.bnds f x 0).all (Dd.keepsB y) := by
 unfold Dd.allowsF at h ⊢
 by_cases hc : Dd.callE f x = 0
 ·rw [if_neg (by simpa using hc)] at h ⊢
  by_cases hd : Dd.drw f y = true
  ·rw [if_pos hd]
   exact ⟨hc, hd, rfl⟩
  ·rw [if_neg hd] at h
   exact absurd h (by decide)
 ·rw [if_pos hc] at h
  exact absurd h hc
theorem Dd.allows_of {f : Dd.Fd} {x : Dd.Ca} {y : List Int} (hc : Dd.callE f x = 0) (hd : Dd.drw f y = true) : Dd.allowsF f x y = ((Dd.bnds f x 0).all (Dd.keepsB y), 0) := by
 unfold Dd.allowsF
 rw [if_neg (by simpa using hc), if_pos hd]
theorem Dd.narrow_says {f : Dd.Fd} {x z : Dd.Ca} {y : List Int} (hx : Dd.callE f x = 0) (h : (Dd.allowsF f z y).2 = 0)
  (hi : Dd.callG f x = 0 → Dd.callG f z = 0 → Dd.drw f y = true → (Dd.bnds f z 0).all (Dd.keepsB y) = true → (Dd.bnds f x 0).all (Dd.keepsB y) = true) :
  (Dd.allowsF f x y).2 = 0 ∧ ((Dd.allowsF f z y).1 = true → (Dd.allowsF f x y).1 = true) := by
 obtain ⟨hz, hd, he⟩ := Dd.allows_ok h
 rw [Dd.allows_of hx hd, he]
 exact ⟨rfl, hi (Dd.callE_zero hx).2 (Dd.callE_zero hz).2 hd⟩

set_option maxHeartbeats 8000000 in
theorem narrows_vast (v : Fv) (f : Dd.Fd) (x : Dd.Ca) (less needle slack : Int) (A : Option Addr) (c : Nat) (y : List Int) (hyl : y.length ≤ 9223372036854775807) (w : World) (hE : Env w) (hF : FRw w w.heap.size v f) (hY : Rd w w.heap.size 1 A y.length (icells y)) (hv : Dd.vastF f = true) :
  Calls Tryz.prog 5 #[fval v f, caval x, .int .i64 less, .int .i64 needle, .int .i64 slack, .slice A y.length c] w fun e w' => e = .returned (.bool true) ∧ Below w.heap.size w w' := by
 have va := fun W (h : Lc w v f x A y W) => vast_any v f W h.raw
 rw [hv] at va
 have SP := Lib.hid (fun W (h : Env W) => spoken_any W h)
 have S0 := Lib.hid (Lc.new (x := x) hE hF hY)
 simp only [fval_def, caval_def] at va S0 ⊢
 have VA := Lib.hid va
 clear hF hv hE va hY
 go_enter Tryz.func5, Tryz.ntmps5
 obtain ⟨⟨⟨⟨⟨f0, f1⟩, f2, f3⟩, ⟨c0, c1⟩, c2, c3⟩, ⟨⟨c4, c5⟩, c6, c7⟩, ⟨c8, c9⟩, c10, c11, c12⟩, fl⟩ := S0.out.tree
 go_wp2_with fail
 refine (VA.out _ S0.out).mono ?_
 rintro e w1 ⟨rfl, hb⟩
 have S1 := Lib.hid (S0.out.next hb)
 clear hb f0 f1 f2 f3 c0 c1 c2 c3 c4 c5 c6 c7 c8 c9 c10 c11 c12 fl S0
 obtain ⟨⟨⟨⟨⟨f0, f1⟩, f2, f3⟩, ⟨c0, c1⟩, c2, c3⟩, ⟨⟨c4, c5⟩, c6, c7⟩, ⟨c8, c9⟩, c10, c11, c12⟩, fl⟩ := S1.out.tree
 go_wp2_with fail
 refine (SP.out _ S1.out.e).mono ?_
 rintro e w2 ⟨rfl, hb⟩
 have S2 := Lib.hid (S1.out.next hb)
 clear hb f0 f1 f2 f3 c0 c1 c2 c3 c4 c5 c6 c7 c8 c9 c10 c11 c12 fl S1
 obtain ⟨⟨⟨⟨⟨f0, f1⟩, f2, f3⟩, ⟨c0, c1⟩, c2, c3⟩, ⟨⟨c4, c5⟩, c6, c7⟩, ⟨c8, c9⟩, c10, c11, c12⟩, fl⟩ := S2.out.tree
 go_wp2_with fail
 go_ret
 exact ⟨rfl, S2.out.b⟩

set_option maxHeartbeats 8000000 in
theorem narrows_long (v : Fv) (f : Dd.Fd) (x : Dd.Ca) (less needle slack : Int) (A : Option Addr) (c : Nat) (y : List Int) (hyl : y.length ≤ 9223372036854775807) (w : World) (hE : Env w) (hF : FRw w w.heap.size v f) (hY : Rd w w.heap.size 1 A y.length (icells y)) (hv : Dd.vastF f = false) (hlong : 130 < y.length) :
  Calls Tryz.prog 5 #[fval v f, caval x, .int .i64 less, .int .i64 needle, .int .i64 slack, .slice A y.length c] w fun e w' => e = .returned (.bool true) ∧ Below w.heap.size w w' := by
 have va := fun W (h : Lc w v f x A y W) => vast_any v f W h.raw
 rw [hv] at va
 have SP := Lib.hid (fun W (h : Env W) => spoken_any W h)
 have S0 := Lib.hid (Lc.new (x := x) hE hF hY)
 have d1 : decide ((y.length : Int) > 130) = true := decide_eq_true (by omega)
 simp only [fval_def, caval_def] at va S0 ⊢
 have VA := Lib.hid va
 clear hF hv hE va hY hlong
 go_enter Tryz.func5, Tryz.ntmps5
 obtain ⟨⟨⟨⟨⟨f0, f1⟩, f2, f3⟩, ⟨c0, c1⟩, c2, c3⟩, ⟨⟨c4, c5⟩, c6, c7⟩, ⟨c8, c9⟩, c10, c11, c12⟩, fl⟩ := S0.out.tree
 go_wp2_with fail
 refine (VA.out _ S0.out).mono ?_
 rintro e w1 ⟨rfl, hb⟩
 have S1 := Lib.hid (S0.out.next hb)
 clear hb f0 f1 f2 f3 c0 c1 c2 c3 c4 c5 c6 c7 c8 c9 c10 c11 c12 fl S0
 obtain ⟨⟨⟨⟨⟨f0, f1⟩, f2, f3⟩, ⟨c0, c1⟩, c2, c3⟩, ⟨⟨c4, c5⟩, c6, c7⟩, ⟨c8, c9⟩, c10, c11, c12⟩, fl⟩ := S1.out.tree
 go_wp2_with fail
 refine (SP.out _ S1.out.e).mono ?_
 rintro e w2 ⟨rfl, hb⟩
 have S2 := Lib.hid (S1.out.next hb)
 clear hb f0 f1 f2 f3 c0 c1 c2 c3 c4 c5 c6 c7 c8 c9 c10 c11 c12 fl S1
 obtain ⟨⟨⟨⟨⟨f0, f1⟩, f2, f3⟩, ⟨c0, c1⟩, c2, c3⟩, ⟨⟨c4, c5⟩, c6, c7⟩, ⟨c8, c9⟩, c10, c11, c12⟩, fl⟩ := S2.out.tree
 go_wp2_with fail
 go_ret
 exact ⟨rfl, S2.out.b⟩

set_option maxHeartbeats 8000000 in
theorem narrows_bad (v : Fv) (f : Dd.Fd) (x : Dd.Ca) (less needle slack : Int) (A : Option Addr) (c : Nat) (y : List Int) (hyl : y.length ≤ 9223372036854775807) (w : World) (hE : Env w) (hF : FRw w w.heap.size v f) (hY : Rd w w.heap.size 1 A y.length (icells y)) (hv : Dd.vastF f = false) (hshort : y.length ≤ 130) (hc : ¬ Dd.callE f x = 0) :
  Calls Tryz.prog 5 #[fval v f, caval x, .int .i64 less, .int .i64 needle, .int .i64 slack, .slice A y.length c] w fun e w' => e = .returned (.bool true) ∧ Below w.heap.size w w' := by
 have va := fun W (h : Lc w v f x A y W) => vast_any v f W h.raw
 rw [hv] at va
 have cc := fun W (h : Lc w v f x A y W) => dCheckCall_any v f x W (h.rd hv) h.e.sn
 obtain ⟨E, hEE⟩ : ∃ E, Dd.callE f x = E := ⟨_, rfl⟩
 rw [hEE] at cc hc
 have e1 : (E != 0) = true := by simp [hc]
 have SP := Lib.hid (fun W (h : Env W) => spoken_any W h)
 have S0 := Lib.hid (Lc.new (x := x) hE hF hY)
 have d1 : decide ((y.length : Int) > 130) = false := decide_eq_false (by omega)
 simp only [fval_def, caval_def] at va cc S0 ⊢
 have VA := Lib.hid va
 have CC := Lib.hid cc
 clear hF hv hE va hY cc hc hEE
 go_enter Tryz.func5, Tryz.ntmps5
 obtain ⟨⟨⟨⟨⟨f0, f1⟩, f2, f3⟩, ⟨c0, c1⟩, c2, c3⟩, ⟨⟨c4, c5⟩, c6, c7⟩, ⟨c8, c9⟩, c10, c11, c12⟩, fl⟩ := S0.out.tree
 go_wp2_with fail
 refine (VA.out _ S0.out).mono ?_
 rintro e w1 ⟨rfl, hb⟩
 have S1 := Lib.hid (S0.out.next hb)
 clear hb f0 f1 f2 f3 c0 c1 c2 c3 c4 c5 c6 c7 c8 c9 c10 c11 c12 fl S0
 obtain ⟨⟨⟨⟨⟨f0, f1⟩, f2, f3⟩, ⟨c0, c1⟩, c2, c3⟩, ⟨⟨c4, c5⟩, c6, c7⟩, ⟨c8, c9⟩, c10, c11, c12⟩, fl⟩ := S1.out.tree
 go_wp2_with fail
 refine (CC.out _ S1.out).mono ?_
 rintro e w2 ⟨rfl, hb⟩
 have S2 := Lib.hid (S1.out.next hb)
 clear hb f0 f1 f2 f3 c0 c1 c2 c3 c4 c5 c6 c7 c8 c9 c10 c11 c12 fl S1
 obtain ⟨⟨⟨⟨⟨f0, f1⟩, f2, f3⟩, ⟨c0, c1⟩, c2, c3⟩, ⟨⟨c4, c5⟩, c6, c7⟩, ⟨c8, c9⟩, c10, c11, c12⟩, fl⟩ := S2.out.tree
 go_wp2_with fail
 refine (SP.out _ S2.out.e).mono ?_
 rintro e w3 ⟨rfl, hb⟩
 have S3 := Lib.hid (S2.out.next hb)
 clear hb f0 f1 f2 f3 c0 c1 c2 c3 c4 c5 c6 c7 c8 c9 c10 c11 c12 fl S2
 obtain ⟨⟨⟨⟨⟨f0, f1⟩, f2, f3⟩, ⟨c0, c1⟩, c2, c3⟩, ⟨⟨c4, c5⟩, c6, c7⟩, ⟨c8, c9⟩, c10, c11, c12⟩, fl⟩ := S3.out.tree
 go_wp2_with fail
 go_ret
 exact ⟨rfl, S3.out.b⟩

set_option maxHeartbeats 8000000 in
theorem narrows_3n (v : Fv) (f : Dd.Fd) (x : Dd.Ca) (less needle slack : Int) (A : Option Addr) (c : Nat) (y : List Int) (hyl : y.length ≤ 9223372036854775807) (w : World) (hE : Env w) (hF : FRw w w.heap.size v f) (hY : Rd w w.heap.size 1 A y.length (icells y)) (hv : Dd.vastF f = false) (hshort : y.length ≤ 130) (hc : Dd.callE f x = 0) (hk : x.k = 3) (hn : Cs.narF ⟨x.c.b, needle, x.c.l, x.c.y, x.c.w, slack⟩ x.c = false) :
  Calls Tryz.prog 5 #[fval v f, caval x, .int .i64 less, .int .i64 needle, .int .i64 slack, .slice A y.length c] w fun e w' => e = .returned (.bool true) ∧ Below w.heap.size w w' := by
 have va := fun W (h : Lc w v f x A y W) => vast_any v f W h.raw
 rw [hv] at va
 have cc := fun W (h : Lc w v f x A y W) => dCheckCall_any v f x W (h.rd hv) h.e.sn
 rw [hc] at cc
 obtain ⟨z, hz⟩ : ∃ z : Dd.Ca, ⟨x.k, x.l, x.o, x.a, x.b, x.s, x.e, ⟨x.c.b, needle, x.c.l, x.c.y, x.c.w, slack⟩⟩ = z := ⟨_, rfl⟩
 have HZ := Lib.hid hz
 have na := fun W => Narrower_any z.c x.c W
 rw [show Cs.narF z.c x.c = false by rw [← hz]; exact hn] at na
 rw [cval_def, cval_def] at na
 have SP := Lib.hid (fun W (h : Env W) => spoken_any W h)
 have HE := Lib.hid hE
 have q1 : (x.k == 3) = true := beq_iff_eq.2 hk
 have S0 := Lib.hid (Lc.new (x := x) hE hF hY)
 have d1 : decide ((y.length : Int) > 130) = false := decide_eq_false (by omega)
 simp only [fval_def, caval_def] at va cc S0 ⊢
 have VA := Lib.hid va
 have CC := Lib.hid cc
 have NA := Lib.hid na
 clear hF hv hE hY hc hn hz hk va cc na
 go_enter Tryz.func5, Tryz.ntmps5
 obtain ⟨⟨⟨⟨⟨f0, f1⟩, f2, f3⟩, ⟨c0, c1⟩, c2, c3⟩, ⟨⟨c4, c5⟩, c6, c7⟩, ⟨c8, c9⟩, c10, c11, c12⟩, fl⟩ := S0.out.tree
 go_wp2_with fail
 refine (VA.out _ S0.out).mono ?_
 rintro e w1 ⟨rfl, hb⟩
 have S1 := Lib.hid (S0.out.next hb)
 clear hb f0 f1 f2 f3 c0 c1 c2 c3 c4 c5 c6 c7 c8 c9 c10 c11 c12 fl S0
 obtain ⟨⟨⟨⟨⟨f0, f1⟩, f2, f3⟩, ⟨c0, c1⟩, c2, c3⟩, ⟨⟨c4, c5⟩, c6, c7⟩, ⟨c8, c9⟩, c10, c11, c12⟩, fl⟩ := S1.out.tree
 go_wp2_with fail
 refine (CC.out _ S1.out).mono ?_
 rintro e w2 ⟨rfl, hb⟩
 have S2 := Lib.hid (S1.out.next hb)
 clear hb f0 f1 f2 f3 c0 c1 c2 c3 c4 c5 c6 c7 c8 c9 c10 c11 c12 fl S1
 obtain ⟨⟨⟨⟨⟨f0, f1⟩, f2, f3⟩, ⟨c0, c1⟩, c2, c3⟩, ⟨⟨c4, c5⟩, c6, c7⟩, ⟨c8, c9⟩, c10, c11, c12⟩, fl⟩ := S2.out.tree
 have hbn := Below.rowNew ((Below.refl w2.heap.size w2).alloc (Nat.le_refl _) (.cells #[.int .u8 0, .int .i64 0, .int .i64 0, .int .i64 0, .int .i64 0, .int .i64 0, .int .i64 0, .int .i64 0, .int .i64 0, .int .i64 0, .int .i64 0, .int .i64 0, .int .i64 0] 42)) (Nat.le_refl _) #[.int .u8 x.k, .int .i64 x.l, .int .i64 x.o, .int .i64 x.a, .int .i64 x.b, .int .i64 x.s, .int .i64 x.e, .int .i64 x.c.b, .int .i64 x.c.n, .int .i64 x.c.l, .int .i64 x.c.y, .int .i64 x.c.w, .int .i64 x.c.s]
 have S2n := Lib.hid (S2.out.next hbn)
 have hgl : w.heap.size + 1 < w2.heap.size := S2.out.kC.lt
 have KD := Lib.hid ((Bk.new w2 42 #[.int .u8 0, .int .i64 0, .int .i64 0, .int .i64 0, .int .i64 0, .int .i64 0, .int .i64 0, .int .i64 0, .int .i64 0, .int .i64 0, .int .i64 0, .int .i64 0, .int .i64 0]).row #[.int .u8 x.k, .int .i64 x.l, .int .i64 x.o, .int .i64 x.a, .int .i64 x.b, .int .i64 x.s, .int .i64 x.e, .int .i64 x.c.b, .int .i64 x.c.n, .int .i64 x.c.l, .int .i64 x.c.y, .int .i64 x.c.w, .int .i64 x.c.s])
 clear hbn
 go_upto_region 4 with (refine wpList_store_row rfl 42 (.tmp 13) (.tmp 32) rfl w2.heap.size _ rfl rfl 42 _ (Bk.new w2 42 #[.int .u8 0, .int .i64 0, .int .i64 0, .int .i64 0, .int .i64 0, .int .i64 0, .int .i64 0, .int .i64 0, .int .i64 0, .int .i64 0, .int .i64 0, .int .i64 0, .int .i64 0]) (by kernel_rfl) rfl (by kernel_rfl) ?_)
 refine wp_cutW (fun V => Lc w v f x A y V ∧ Bk V w2.heap.size 42 #[.int .u8 x.k, .int .i64 x.l, .int .i64 x.o, .int .i64 x.a, .int .i64 x.b, .int .i64 x.s, .int .i64 x.e, .int .i64 x.c.b, .int .i64 x.c.n, .int .i64 x.c.l, .int .i64 x.c.y, .int .i64 x.c.w, .int .i64 x.c.s]) ⟨S2n.out, KD.out⟩ ?_
 rintro W2 ⟨hs, hkd⟩
 have S3 := Lib.hid hs
 clear f0 f1 f2 f3 c0 c1 c2 c3 c4 c5 c6 c7 c8 c9 c10 c11 c12 fl KD S2 S2n hs
 have KD := Lib.hid hkd
 clear hkd
 obtain ⟨⟨⟨⟨⟨f0, f1⟩, f2, f3⟩, ⟨c0, c1⟩, c2, c3⟩, ⟨⟨c4, c5⟩, c6, c7⟩, ⟨c8, c9⟩, c10, c11, c12⟩, fl⟩ := S3.out.tree
 obtain ⟨⟨⟨⟨d0, d1, d2⟩, d3, d4, d5⟩, ⟨d6, d7, d8⟩, d9, d10, d11, d12⟩, dl⟩ := ca_tree KD.out
 have fz8 := KD.out.frozen 8
 have fz12 := KD.out.frozen 12
 have KN := Lib.hid ((KD.out.setA 8 (.int .i64 needle) #[.int .u8 x.k, .int .i64 x.l, .int .i64 x.o, .int .i64 x.a, .int .i64 x.b, .int .i64 x.s, .int .i64 x.e, .int .i64 x.c.b, .int .i64 needle, .int .i64 x.c.l, .int .i64 x.c.y, .int .i64 x.c.w, .int .i64 x.c.s] (by simp only [List.setIfInBounds_toArray, List.set_cons_succ, List.set_cons_zero])).setA 12 (.int .i64 slack) #[.int .u8 x.k, .int .i64 x.l, .int .i64 x.o, .int .i64 x.a, .int .i64 x.b, .int .i64 x.s, .int .i64 x.e, .int .i64 x.c.b, .int .i64 needle, .int .i64 x.c.l, .int .i64 x.c.y, .int .i64 x.c.w, .int .i64 slack] (by simp only [List.setIfInBounds_toArray, List.set_cons_succ, List.set_cons_zero]))
 have SN := Lib.hid ((S3.out.far HE.out hgl 8 (.int .i64 needle)).far HE.out hgl 12 (.int .i64 slack))
 go_upto_region 7 with fail
 refine wp_cutW (fun V => Lc w v f x A y V ∧ Bk V w2.heap.size 42 #[.int .u8 z.k, .int .i64 z.l, .int .i64 z.o, .int .i64 z.a, .int .i64 z.b, .int .i64 z.s, .int .i64 z.e, .int .i64 z.c.b, .int .i64 z.c.n, .int .i64 z.c.l, .int .i64 z.c.y, .int .i64 z.c.w, .int .i64 z.c.s]) ⟨SN.out, by have h1 := KN.out; have h2 := HZ.out; subst h2; exact h1⟩ ?_
 rintro W3 ⟨hs, hkd⟩
 have S4 := Lib.hid hs
 clear f0 f1 f2 f3 c0 c1 c2 c3 c4 c5 c6 c7 c8 c9 c10 c11 c12 fl d0 d1 d2 d3 d4 d5 d6 d7 d8 d9 d10 d11 d12 dl fz8 fz12 KD KN SN S3 hs
 have KD := Lib.hid hkd
 clear hkd
 obtain ⟨⟨⟨⟨⟨f0, f1⟩, f2, f3⟩, ⟨c0, c1⟩, c2, c3⟩, ⟨⟨c4, c5⟩, c6, c7⟩, ⟨c8, c9⟩, c10, c11, c12⟩, fl⟩ := S4.out.tree
 obtain ⟨⟨⟨⟨d0, d1, d2⟩, d3, d4, d5⟩, ⟨d6, d7, d8⟩, d9, d10, d11, d12⟩, dl⟩ := ca_tree KD.out
 go_wp2_with fail
 refine (NA.out _).mono ?_
 rintro e w5 ⟨rfl, hb⟩
 have S5 := Lib.hid (S4.out.next hb)
 have KDN := Lib.hid (KD.out.below hb KD.out.lt)
 clear KD
 have KD := KDN
 clear KDN
 clear hb f0 f1 f2 f3 c0 c1 c2 c3 c4 c5 c6 c7 c8 c9 c10 c11 c12 fl d0 d1 d2 d3 d4 d5 d6 d7 d8 d9 d10 d11 d12 dl S4
 obtain ⟨⟨⟨⟨⟨f0, f1⟩, f2, f3⟩, ⟨c0, c1⟩, c2, c3⟩, ⟨⟨c4, c5⟩, c6, c7⟩, ⟨c8, c9⟩, c10, c11, c12⟩, fl⟩ := S5.out.tree
 obtain ⟨⟨⟨⟨d0, d1, d2⟩, d3, d4, d5⟩, ⟨d6, d7, d8⟩, d9, d10, d11, d12⟩, dl⟩ := ca_tree KD.out
 go_wp2_with fail
 refine (SP.out _ S5.out.e).mono ?_
 rintro e w6 ⟨rfl, hb⟩
 have S6 := Lib.hid (S5.out.next hb)
 have KDN := Lib.hid (KD.out.below hb KD.out.lt)
 clear KD
 have KD := KDN
 clear KDN
 clear hb f0 f1 f2 f3 c0 c1 c2 c3 c4 c5 c6 c7 c8 c9 c10 c11 c12 fl d0 d1 d2 d3 d4 d5 d6 d7 d8 d9 d10 d11 d12 dl S5
 obtain ⟨⟨⟨⟨⟨f0, f1⟩, f2, f3⟩, ⟨c0, c1⟩, c2, c3⟩, ⟨⟨c4, c5⟩, c6, c7⟩, ⟨c8, c9⟩, c10, c11, c12⟩, fl⟩ := S6.out.tree
 obtain ⟨⟨⟨⟨d0, d1, d2⟩, d3, d4, d5⟩, ⟨d6, d7, d8⟩, d9, d10, d11, d12⟩, dl⟩ := ca_tree KD.out
 go_wp2_with fail
 go_ret
 exact ⟨rfl, S6.out.b⟩

set_option maxHeartbeats 8000000 in
theorem narrows_3e (v : Fv) (f : Dd.Fd) (x : Dd.Ca) (less needle slack : Int) (A : Option Addr) (c : Nat) (y : List Int) (hyl : y.length ≤ 9223372036854775807) (w : World) (hE : Env w) (hF : FRw w w.heap.size v f) (hY : Rd w w.heap.size 1 A y.length (icells y)) (hv : Dd.vastF f = false) (hshort : y.length ≤ 130) (hc : Dd.callE f x = 0) (hk : x.k = 3) (hn : Cs.narF ⟨x.c.b, needle, x.c.l, x.c.y, x.c.w, slack⟩ x.c = true) (he : ¬ (Dd.allowsF f ⟨x.k, x.l, x.o, x.a, x.b, x.s, x.e, ⟨x.c.b, needle, x.c.l, x.c.y, x.c.w, slack⟩⟩ y).2 = 0) :
  Calls Tryz.prog 5 #[fval v f, caval x, .int .i64 less, .int .i64 needle, .int .i64 slack, .slice A y.length c] w fun e w' => e = .returned (.bool true) ∧ Below w.heap.size w w' := by
 have va := fun W (h : Lc w v f x A y W) => vast_any v f W h.raw
 rw [hv] at va
 have cc := fun W (h : Lc w v f x A y W) => dCheckCall_any v f x W (h.rd hv) h.e.sn
 rw [hc] at cc
 obtain ⟨z, hz⟩ : ∃ z : Dd.Ca, ⟨x.k, x.l, x.o, x.a, x.b, x.s, x.e, ⟨x.c.b, needle, x.c.l, x.c.y, x.c.w, slack⟩⟩ = z := ⟨_, rfl⟩
 have HZ := Lib.hid hz
 have na := fun W => Narrower_any z.c x.c W
 rw [show Cs.narF z.c x.c = true by rw [← hz]; exact hn] at na
 rw [cval_def, cval_def] at na
 rw [hz] at he
 have al := fun W (h : Lc w v f x A y W) => dAllows_any v f z A c y W (h.rd hv) h.e.sn h.yy (by omega)
 have al2 := fun W (h : Lc w v f x A y W) => dAllows_any v f x A c y W (h.rd hv) h.e.sn h.yy (by omega)
 obtain ⟨P1, hP1⟩ : ∃ P, (Dd.allowsF f z y).1 = P := ⟨_, rfl⟩
 obtain ⟨E1, hE1⟩ : ∃ P, (Dd.allowsF f z y).2 = P := ⟨_, rfl⟩
 obtain ⟨P2, hP2⟩ : ∃ P, (Dd.allowsF f x y).1 = P := ⟨_, rfl⟩
 obtain ⟨E2, hE2⟩ : ∃ P, (Dd.allowsF f x y).2 = P := ⟨_, rfl⟩
 rw [hP1, hE1] at al
 rw [hP2, hE2] at al2
 rw [hE1] at he
 have e1 : (E1 != 0) = true := by simp [he]
 have SP := Lib.hid (fun W (h : Env W) => spoken_any W h)
 have HE := Lib.hid hE
 have q1 : (x.k == 3) = true := beq_iff_eq.2 hk
 have S0 := Lib.hid (Lc.new (x := x) hE hF hY)
 have d1 : decide ((y.length : Int) > 130) = false := decide_eq_false (by omega)
 simp only [fval_def, caval_def] at va cc al al2 S0 ⊢
 have VA := Lib.hid va
 have CC := Lib.hid cc
 have NA := Lib.hid na
 have AL := Lib.hid al
 have AL2 := Lib.hid al2
 clear hF hv hE hY hc hn hP1 hP2 hE1 hE2 he hz hk va cc na al al2
 go_enter Tryz.func5, Tryz.ntmps5
 obtain ⟨⟨⟨⟨⟨f0, f1⟩, f2, f3⟩, ⟨c0, c1⟩, c2, c3⟩, ⟨⟨c4, c5⟩, c6, c7⟩, ⟨c8, c9⟩, c10, c11, c12⟩, fl⟩ := S0.out.tree
 go_wp2_with fail
 refine (VA.out _ S0.out).mono ?_
 rintro e w1 ⟨rfl, hb⟩
 have S1 := Lib.hid (S0.out.next hb)
 clear hb f0 f1 f2 f3 c0 c1 c2 c3 c4 c5 c6 c7 c8 c9 c10 c11 c12 fl S0
 obtain ⟨⟨⟨⟨⟨f0, f1⟩, f2, f3⟩, ⟨c0, c1⟩, c2, c3⟩, ⟨⟨c4, c5⟩, c6, c7⟩, ⟨c8, c9⟩, c10, c11, c12⟩, fl⟩ := S1.out.tree
 go_wp2_with fail
 refine (CC.out _ S1.out).mono ?_
 rintro e w2 ⟨rfl, hb⟩
 have S2 := Lib.hid (S1.out.next hb)
 clear hb f0 f1 f2 f3 c0 c1 c2 c3 c4 c5 c6 c7 c8 c9 c10 c11 c12 fl S1
 obtain ⟨⟨⟨⟨⟨f0, f1⟩, f2, f3⟩, ⟨c0, c1⟩, c2, c3⟩, ⟨⟨c4, c5⟩, c6, c7⟩, ⟨c8, c9⟩, c10, c11, c12⟩, fl⟩ := S2.out.tree
 have hbn := Below.rowNew ((Below.refl w2.heap.size w2).alloc (Nat.le_refl _) (.cells #[.int .u8 0, .int .i64 0, .int .i64 0, .int .i64 0, .int .i64 0, .int .i64 0, .int .i64 0, .int .i64 0, .int .i64 0, .int .i64 0, .int .i64 0, .int .i64 0, .int .i64 0] 42)) (Nat.le_refl _) #[.int .u8 x.k, .int .i64 x.l, .int .i64 x.o, .int .i64 x.a, .int .i64 x.b, .int .i64 x.s, .int .i64 x.e, .int .i64 x.c.b, .int .i64 x.c.n, .int .i64 x.c.l, .int .i64 x.c.y, .int .i64 x.c.w, .int .i64 x.c.s]
 have S2n := Lib.hid (S2.out.next hbn)
 have hgl : w.heap.size + 1 < w2.heap.size := S2.out.kC.lt
 have KD := Lib.hid ((Bk.new w2 42 #[.int .u8 0, .int .i64 0, .int .i64 0, .int .i64 0, .int .i64 0, .int .i64 0, .int .i64 0, .int .i64 0, .int .i64 0, .int .i64 0, .int .i64 0, .int .i64 0, .int .i64 0]).row #[.int .u8 x.k, .int .i64 x.l, .int .i64 x.o, .int .i64 x.a, .int .i64 x.b, .int .i64 x.s, .int .i64 x.e, .int .i64 x.c.b, .int .i64 x.c.n, .int .i64 x.c.l, .int .i64 x.c.y, .int .i64 x.c.w, .int .i64 x.c.s])
 clear hbn
 go_upto_region 4 with (refine wpList_store_row rfl 42 (.tmp 13) (.tmp 32) rfl w2.heap.size _ rfl rfl 42 _ (Bk.new w2 42 #[.int .u8 0, .int .i64 0, .int .i64 0, .int .i64 0, .int .i64 0, .int .i64 0, .int .i64 0, .int .i64 0, .int .i64 0, .int .i64 0, .int .i64 0, .int .i64 0, .int .i64 0]) (by kernel_rfl) rfl (by kernel_rfl) ?_)
 refine wp_cutW (fun V => Lc w v f x A y V ∧ Bk V w2.heap.size 42 #[.int .u8 x.k, .int .i64 x.l, .int .i64 x.o, .int .i64 x.a, .int .i64 x.b, .int .i64 x.s, .int .i64 x.e, .int .i64 x.c.b, .int .i64 x.c.n, .int .i64 x.c.l, .int .i64 x.c.y, .int .i64 x.c.w, .int .i64 x.c.s]) ⟨S2n.out, KD.out⟩ ?_
 rintro W2 ⟨hs, hkd⟩
 have S3 := Lib.hid hs
 clear f0 f1 f2 f3 c0 c1 c2 c3 c4 c5 c6 c7 c8 c9 c10 c11 c12 fl KD S2 S2n hs
 have KD := Lib.hid hkd
 clear hkd
 obtain ⟨⟨⟨⟨⟨f0, f1⟩, f2, f3⟩, ⟨c0, c1⟩, c2, c3⟩, ⟨⟨c4, c5⟩, c6, c7⟩, ⟨c8, c9⟩, c10, c11, c12⟩, fl⟩ := S3.out.tree
 obtain ⟨⟨⟨⟨d0, d1, d2⟩, d3, d4, d5⟩, ⟨d6, d7, d8⟩, d9, d10, d11, d12⟩, dl⟩ := ca_tree KD.out
 have fz8 := KD.out.frozen 8
 have fz12 := KD.out.frozen 12
 have KN := Lib.hid ((KD.out.setA 8 (.int .i64 needle) #[.int .u8 x.k, .int .i64 x.l, .int .i64 x.o, .int .i64 x.a, .int .i64 x.b, .int .i64 x.s, .int .i64 x.e, .int .i64 x.c.b, .int .i64 needle, .int .i64 x.c.l, .int .i64 x.c.y, .int .i64 x.c.w, .int .i64 x.c.s] (by simp only [List.setIfInBounds_toArray, List.set_cons_succ, List.set_cons_zero])).setA 12 (.int .i64 slack) #[.int .u8 x.k, .int .i64 x.l, .int .i64 x.o, .int .i64 x.a, .int .i64 x.b, .int .i64 x.s, .int .i64 x.e, .int .i64 x.c.b, .int .i64 needle, .int .i64 x.c.l, .int .i64 x.c.y, .int .i64 x.c.w, .int .i64 slack] (by simp only [List.setIfInBounds_toArray, List.set_cons_succ, List.set_cons_zero]))
 have SN := Lib.hid ((S3.out.far HE.out hgl 8 (.int .i64 needle)).far HE.out hgl 12 (.int .i64 slack))
 go_upto_region 7 with fail
 refine wp_cutW (fun V => Lc w v f x A y V ∧ Bk V w2.heap.size 42 #[.int .u8 z.k, .int .i64 z.l, .int .i64 z.o, .int .i64 z.a, .int .i64 z.b, .int .i64 z.s, .int .i64 z.e, .int .i64 z.c.b, .int .i64 z.c.n, .int .i64 z.c.l, .int .i64 z.c.y, .int .i64 z.c.w, .int .i64 z.c.s]) ⟨SN.out, by have h1 := KN.out; have h2 := HZ.out; subst h2; exact h1⟩ ?_
 rintro W3 ⟨hs, hkd⟩
 have S4 := Lib.hid hs
 clear f0 f1 f2 f3 c0 c1 c2 c3 c4 c5 c6 c7 c8 c9 c10 c11 c12 fl d0 d1 d2 d3 d4 d5 d6 d7 d8 d9 d10 d11 d12 dl fz8 fz12 KD KN SN S3 hs
 have KD := Lib.hid hkd
 clear hkd
 obtain ⟨⟨⟨⟨⟨f0, f1⟩, f2, f3⟩, ⟨c0, c1⟩, c2, c3⟩, ⟨⟨c4, c5⟩, c6, c7⟩, ⟨c8, c9⟩, c10, c11, c12⟩, fl⟩ := S4.out.tree
 obtain ⟨⟨⟨⟨d0, d1, d2⟩, d3, d4, d5⟩, ⟨d6, d7, d8⟩, d9, d10, d11, d12⟩, dl⟩ := ca_tree KD.out
 go_wp2_with fail
 refine (NA.out _).mono ?_
 rintro e w5 ⟨rfl, hb⟩
 have S5 := Lib.hid (S4.out.next hb)
 have KDN := Lib.hid (KD.out.below hb KD.out.lt)
 clear KD
 have KD := KDN
 clear KDN
 clear hb f0 f1 f2 f3 c0 c1 c2 c3 c4 c5 c6 c7 c8 c9 c10 c11 c12 fl d0 d1 d2 d3 d4 d5 d6 d7 d8 d9 d10 d11 d12 dl S4
 obtain ⟨⟨⟨⟨⟨f0, f1⟩, f2, f3⟩, ⟨c0, c1⟩, c2, c3⟩, ⟨⟨c4, c5⟩, c6, c7⟩, ⟨c8, c9⟩, c10, c11, c12⟩, fl⟩ := S5.out.tree
 obtain ⟨⟨⟨⟨d0, d1, d2⟩, d3, d4, d5⟩, ⟨d6, d7, d8⟩, d9, d10, d11, d12⟩, dl⟩ := ca_tree KD.out
 go_wp2_with fail
 refine (AL.out _ S5.out).mono ?_
 rintro e w6 ⟨rfl, hb⟩
 have S6 := Lib.hid (S5.out.next hb)
 have KDN := Lib.hid (KD.out.below hb KD.out.lt)
 clear KD
 have KD := KDN
 clear KDN
 clear hb f0 f1 f2 f3 c0 c1 c2 c3 c4 c5 c6 c7 c8 c9 c10 c11 c12 fl d0 d1 d2 d3 d4 d5 d6 d7 d8 d9 d10 d11 d12 dl S5
 obtain ⟨⟨⟨⟨⟨f0, f1⟩, f2, f3⟩, ⟨c0, c1⟩, c2, c3⟩, ⟨⟨c4, c5⟩, c6, c7⟩, ⟨c8, c9⟩, c10, c11, c12⟩, fl⟩ := S6.out.tree
 obtain ⟨⟨⟨⟨d0, d1, d2⟩, d3, d4, d5⟩, ⟨d6, d7, d8⟩, d9, d10, d11, d12⟩, dl⟩ := ca_tree KD.out
 go_wp2_with fail
 refine (AL2.out _ S6.out).mono ?_
 rintro e w7 ⟨rfl, hb⟩
 have S7 := Lib.hid (S6.out.next hb)
 have KDN := Lib.hid (KD.out.below hb KD.out.lt)
 clear KD
 have KD := KDN
 clear KDN
 clear hb f0 f1 f2 f3 c0 c1 c2 c3 c4 c5 c6 c7 c8 c9 c10 c11 c12 fl d0 d1 d2 d3 d4 d5 d6 d7 d8 d9 d10 d11 d12 dl S6
 obtain ⟨⟨⟨⟨⟨f0, f1⟩, f2, f3⟩, ⟨c0, c1⟩, c2, c3⟩, ⟨⟨c4, c5⟩, c6, c7⟩, ⟨c8, c9⟩, c10, c11, c12⟩, fl⟩ := S7.out.tree
 obtain ⟨⟨⟨⟨d0, d1, d2⟩, d3, d4, d5⟩, ⟨d6, d7, d8⟩, d9, d10, d11, d12⟩, dl⟩ := ca_tree KD.out
 go_wp2_with fail
 refine (SP.out _ S7.out.e).mono ?_
 rintro e w8 ⟨rfl, hb⟩
 have S8 := Lib.hid (S7.out.next hb)
 have KDN := Lib.hid (KD.out.below hb KD.out.lt)
 clear KD
 have KD := KDN
 clear KDN
 clear hb f0 f1 f2 f3 c0 c1 c2 c3 c4 c5 c6 c7 c8 c9 c10 c11 c12 fl d0 d1 d2 d3 d4 d5 d6 d7 d8 d9 d10 d11 d12 dl S7
 obtain ⟨⟨⟨⟨⟨f0, f1⟩, f2, f3⟩, ⟨c0, c1⟩, c2, c3⟩, ⟨⟨c4, c5⟩, c6, c7⟩, ⟨c8, c9⟩, c10, c11, c12⟩, fl⟩ := S8.out.tree
 obtain ⟨⟨⟨⟨d0, d1, d2⟩, d3, d4, d5⟩, ⟨d6, d7, d8⟩, d9, d10, d11, d12⟩, dl⟩ := ca_tree KD.out
 go_wp2_with fail
 go_ret
 exact ⟨rfl, S8.out.b⟩

set_option maxHeartbeats 8000000 in
theorem narrows_3o (v : Fv) (f : Dd.Fd) (x : Dd.Ca) (less needle slack : Int) (A : Option Addr) (c : Nat) (y : List Int) (hyl : y.length ≤ 9223372036854775807) (w : World) (hE : Env w) (hF : FRw w w.heap.size v f) (hY : Rd w w.heap.size 1 A y.length (icells y)) (hv : Dd.vastF f = false) (hshort : y.length ≤ 130) (hc : Dd.callE f x = 0) (hk : x.k = 3) (hn : Cs.narF ⟨x.c.b, needle, x.c.l, x.c.y, x.c.w, slack⟩ x.c = true) (he : (Dd.allowsF f ⟨x.k, x.l, x.o, x.a, x.b, x.s, x.e, ⟨x.c.b, needle, x.c.l, x.c.y, x.c.w, slack⟩⟩ y).2 = 0) :
  Calls Tryz.prog 5 #[fval v f, caval x, .int .i64 less, .int .i64 needle, .int .i64 slack, .slice A y.length c] w fun e w' => e = .returned (.bool true) ∧ Below w.heap.size w w' := by
 have va := fun W (h : Lc w v f x A y W) => vast_any v f W h.raw
 rw [hv] at va
 have cc := fun W (h : Lc w v f x A y W) => dCheckCall_any v f x W (h.rd hv) h.e.sn
 rw [hc] at cc
 obtain ⟨r1, r2⟩ := Dd.narrow_says (y := y) (z := ⟨x.k, x.l, x.o, x.a, x.b, x.s, x.e, ⟨x.c.b, needle, x.c.l, x.c.y, x.c.w, slack⟩⟩) hc he (fun h1 h2 h3 h4 => Dd.allows_nar h1 h2 h3 hk hn rfl h4)
 obtain ⟨z, hz⟩ : ∃ z : Dd.Ca, ⟨x.k, x.l, x.o, x.a, x.b, x.s, x.e, ⟨x.c.b, needle, x.c.l, x.c.y, x.c.w, slack⟩⟩ = z := ⟨_, rfl⟩
 have HZ := Lib.hid hz
 have na := fun W => Narrower_any z.c x.c W
 rw [show Cs.narF z.c x.c = true by rw [← hz]; exact hn] at na
 rw [cval_def, cval_def] at na
 rw [hz] at he r2
 have al := fun W (h : Lc w v f x A y W) => dAllows_any v f z A c y W (h.rd hv) h.e.sn h.yy (by omega)
 have al2 := fun W (h : Lc w v f x A y W) => dAllows_any v f x A c y W (h.rd hv) h.e.sn h.yy (by omega)
 obtain ⟨P1, hP1⟩ : ∃ P, (Dd.allowsF f z y).1 = P := ⟨_, rfl⟩
 obtain ⟨E1, hE1⟩ : ∃ P, (Dd.allowsF f z y).2 = P := ⟨_, rfl⟩
 obtain ⟨P2, hP2⟩ : ∃ P, (Dd.allowsF f x y).1 = P := ⟨_, rfl⟩
 obtain ⟨E2, hE2⟩ : ∃ P, (Dd.allowsF f x y).2 = P := ⟨_, rfl⟩
 rw [hP1, hE1] at al
 rw [hP2, hE2] at al2
 rw [hE1] at he
 rw [hE2] at r1
 rw [hP1, hP2] at r2
 subst he r1
 have HR2 := Lib.hid r2
 have SP := Lib.hid (fun W (h : Env W) => spoken_any W h)
 have HE := Lib.hid hE
 have q1 : (x.k == 3) = true := beq_iff_eq.2 hk
 have S0 := Lib.hid (Lc.new (x := x) hE hF hY)
 have d1 : decide ((y.length : Int) > 130) = false := decide_eq_false (by omega)
 simp only [fval_def, caval_def] at va cc al al2 S0 ⊢
 have VA := Lib.hid va
 have CC := Lib.hid cc
 have NA := Lib.hid na
 have AL := Lib.hid al
 have AL2 := Lib.hid al2
 clear hF hv hE hY hc hn hP1 hP2 hE1 hE2 r2 hz hk va cc na al al2
 go_enter Tryz.func5, Tryz.ntmps5
 obtain ⟨⟨⟨⟨⟨f0, f1⟩, f2, f3⟩, ⟨c0, c1⟩, c2, c3⟩, ⟨⟨c4, c5⟩, c6, c7⟩, ⟨c8, c9⟩, c10, c11, c12⟩, fl⟩ := S0.out.tree
 go_wp2_with fail
 refine (VA.out _ S0.out).mono ?_
 rintro e w1 ⟨rfl, hb⟩
 have S1 := Lib.hid (S0.out.next hb)
 clear hb f0 f1 f2 f3 c0 c1 c2 c3 c4 c5 c6 c7 c8 c9 c10 c11 c12 fl S0
 obtain ⟨⟨⟨⟨⟨f0, f1⟩, f2, f3⟩, ⟨c0, c1⟩, c2, c3⟩, ⟨⟨c4, c5⟩, c6, c7⟩, ⟨c8, c9⟩, c10, c11, c12⟩, fl⟩ := S1.out.tree
 go_wp2_with fail
 refine (CC.out _ S1.out).mono ?_
 rintro e w2 ⟨rfl, hb⟩
 have S2 := Lib.hid (S1.out.next hb)
 clear hb f0 f1 f2 f3 c0 c1 c2 c3 c4 c5 c6 c7 c8 c9 c10 c11 c12 fl S1
 obtain ⟨⟨⟨⟨⟨f0, f1⟩, f2, f3⟩, ⟨c0, c1⟩, c2, c3⟩, ⟨⟨c4, c5⟩, c6, c7⟩, ⟨c8, c9⟩, c10, c11, c12⟩, fl⟩ := S2.out.tree
 have hbn := Below.rowNew ((Below.refl w2.heap.size w2).alloc (Nat.le_refl _) (.cells #[.int .u8 0, .int .i64 0, .int .i64 0, .int .i64 0, .int .i64 0, .int .i64 0, .int .i64 0, .int .i64 0, .int .i64 0, .int .i64 0, .int .i64 0, .int .i64 0, .int .i64 0] 42)) (Nat.le_refl _) #[.int .u8 x.k, .int .i64 x.l, .int .i64 x.o, .int .i64 x.a, .int .i64 x.b, .int .i64 x.s, .int .i64 x.e, .int .i64 x.c.b, .int .i64 x.c.n, .int .i64 x.c.l, .int .i64 x.c.y, .int .i64 x.c.w, .int .i64 x.c.s]
 have S2n := Lib.hid (S2.out.next hbn)
 have hgl : w.heap.size + 1 < w2.heap.size := S2.out.kC.lt
 have KD := Lib.hid ((Bk.new w2 42 #[.int .u8 0, .int .i64 0, .int .i64 0, .int .i64 0, .int .i64 0, .int .i64 0, .int .i64 0, .int .i64 0, .int .i64 0, .int .i64 0, .int .i64 0, .int .i64 0, .int .i64 0]).row #[.int .u8 x.k, .int .i64 x.l, .int .i64 x.o, .int .i64 x.a, .int .i64 x.b, .int .i64 x.s, .int .i64 x.e, .int .i64 x.c.b, .int .i64 x.c.n, .int .i64 x.c.l, .int .i64 x.c.y, .int .i64 x.c.w, .int .i64 x.c.s])
 clear hbn
 go_upto_region 4 with (refine wpList_store_row rfl 42 (.tmp 13) (.tmp 32) rfl w2.heap.size _ rfl rfl 42 _ (Bk.new w2 42 #[.int .u8 0, .int .i64 0, .int .i64 0, .int .i64 0, .int .i64 0, .int .i64 0, .int .i64 0, .int .i64 0, .int .i64 0, .int .i64 0, .int .i64 0, .int .i64 0, .int .i64 0]) (by kernel_rfl) rfl (by kernel_rfl) ?_)
 refine wp_cutW (fun V => Lc w v f x A y V ∧ Bk V w2.heap.size 42 #[.int .u8 x.k, .int .i64 x.l, .int .i64 x.o, .int .i64 x.a, .int .i64 x.b, .int .i64 x.s, .int .i64 x.e, .int .i64 x.c.b, .int .i64 x.c.n, .int .i64 x.c.l, .int .i64 x.c.y, .int .i64 x.c.w, .int .i64 x.c.s]) ⟨S2n.out, KD.out⟩ ?_
 rintro W2 ⟨hs, hkd⟩
 have S3 := Lib.hid hs
 clear f0 f1 f2 f3 c0 c1 c2 c3 c4 c5 c6 c7 c8 c9 c10 c11 c12 fl KD S2 S2n hs
 have KD := Lib.hid hkd
 clear hkd
 obtain ⟨⟨⟨⟨⟨f0, f1⟩, f2, f3⟩, ⟨c0, c1⟩, c2, c3⟩, ⟨⟨c4, c5⟩, c6, c7⟩, ⟨c8, c9⟩, c10, c11, c12⟩, fl⟩ := S3.out.tree
 obtain ⟨⟨⟨⟨d0, d1, d2⟩, d3, d4, d5⟩, ⟨d6, d7, d8⟩, d9, d10, d11, d12⟩, dl⟩ := ca_tree KD.out
 have fz8 := KD.out.frozen 8
 have fz12 := KD.out.frozen 12
 have KN := Lib.hid ((KD.out.setA 8 (.int .i64 needle) #[.int .u8 x.k, .int .i64 x.l, .int .i64 x.o, .int .i64 x.a, .int .i64 x.b, .int .i64 x.s, .int .i64 x.e, .int .i64 x.c.b, .int .i64 needle, .int .i64 x.c.l, .int .i64 x.c.y, .int .i64 x.c.w, .int .i64 x.c.s] (by simp only [List.setIfInBounds_toArray, List.set_cons_succ, List.set_cons_zero])).setA 12 (.int .i64 slack) #[.int .u8 x.k, .int .i64 x.l, .int .i64 x.o, .int .i64 x.a, .int .i64 x.b, .int .i64 x.s, .int .i64 x.e, .int .i64 x.c.b, .int .i64 needle, .int .i64 x.c.l, .int .i64 x.c.y, .int .i64 x.c.w, .int .i64 slack] (by simp only [List.setIfInBounds_toArray, List.set_cons_succ, List.set_cons_zero]))
 have SN := Lib.hid ((S3.out.far HE.out hgl 8 (.int .i64 needle)).far HE.out hgl 12 (.int .i64 slack))
 go_upto_region 7 with fail
 refine wp_cutW (fun V => Lc w v f x A y V ∧ Bk V w2.heap.size 42 #[.int .u8 z.k, .int .i64 z.l, .int .i64 z.o, .int .i64 z.a, .int .i64 z.b, .int .i64 z.s, .int .i64 z.e, .int .i64 z.c.b, .int .i64 z.c.n, .int .i64 z.c.l, .int .i64 z.c.y, .int .i64 z.c.w, .int .i64 z.c.s]) ⟨SN.out, by have h1 := KN.out; have h2 := HZ.out; subst h2; exact h1⟩ ?_
 rintro W3 ⟨hs, hkd⟩
 have S4 := Lib.hid hs
 clear f0 f1 f2 f3 c0 c1 c2 c3 c4 c5 c6 c7 c8 c9 c10 c11 c12 fl d0 d1 d2 d3 d4 d5 d6 d7 d8 d9 d10 d11 d12 dl fz8 fz12 KD KN SN S3 hs
 have KD := Lib.hid hkd
 clear hkd
 obtain ⟨⟨⟨⟨⟨f0, f1⟩, f2, f3⟩, ⟨c0, c1⟩, c2, c3⟩, ⟨⟨c4, c5⟩, c6, c7⟩, ⟨c8, c9⟩, c10, c11, c12⟩, fl⟩ := S4.out.tree
 obtain ⟨⟨⟨⟨d0, d1, d2⟩, d3, d4, d5⟩, ⟨d6, d7, d8⟩, d9, d10, d11, d12⟩, dl⟩ := ca_tree KD.out
 go_wp2_with fail
 refine (NA.out _).mono ?_
 rintro e w5 ⟨rfl, hb⟩
 have S5 := Lib.hid (S4.out.next hb)
 have KDN := Lib.hid (KD.out.below hb KD.out.lt)
 clear KD
 have KD := KDN
 clear KDN
 clear hb f0 f1 f2 f3 c0 c1 c2 c3 c4 c5 c6 c7 c8 c9 c10 c11 c12 fl d0 d1 d2 d3 d4 d5 d6 d7 d8 d9 d10 d11 d12 dl S4
 obtain ⟨⟨⟨⟨⟨f0, f1⟩, f2, f3⟩, ⟨c0, c1⟩, c2, c3⟩, ⟨⟨c4, c5⟩, c6, c7⟩, ⟨c8, c9⟩, c10, c11, c12⟩, fl⟩ := S5.out.tree
 obtain ⟨⟨⟨⟨d0, d1, d2⟩, d3, d4, d5⟩, ⟨d6, d7, d8⟩, d9, d10, d11, d12⟩, dl⟩ := ca_tree KD.out
 go_wp2_with fail
 refine (AL.out _ S5.out).mono ?_
 rintro e w6 ⟨rfl, hb⟩
 have S6 := Lib.hid (S5.out.next hb)
 have KDN := Lib.hid (KD.out.below hb KD.out.lt)
 clear KD
 have KD := KDN
 clear KDN
 clear hb f0 f1 f2 f3 c0 c1 c2 c3 c4 c5 c6 c7 c8 c9 c10 c11 c12 fl d0 d1 d2 d3 d4 d5 d6 d7 d8 d9 d10 d11 d12 dl S5
 obtain ⟨⟨⟨⟨⟨f0, f1⟩, f2, f3⟩, ⟨c0, c1⟩, c2, c3⟩, ⟨⟨c4, c5⟩, c6, c7⟩, ⟨c8, c9⟩, c10, c11, c12⟩, fl⟩ := S6.out.tree
 obtain ⟨⟨⟨⟨d0, d1, d2⟩, d3, d4, d5⟩, ⟨d6, d7, d8⟩, d9, d10, d11, d12⟩, dl⟩ := ca_tree KD.out
 go_wp2_with fail
 refine (AL2.out _ S6.out).mono ?_
 rintro e w7 ⟨rfl, hb⟩
 have S7 := Lib.hid (S6.out.next hb)
 have KDN := Lib.hid (KD.out.below hb KD.out.lt)
 clear KD
 have KD := KDN
 clear KDN
 clear hb f0 f1 f2 f3 c0 c1 c2 c3 c4 c5 c6 c7 c8 c9 c10 c11 c12 fl d0 d1 d2 d3 d4 d5 d6 d7 d8 d9 d10 d11 d12 dl S6
 obtain ⟨⟨⟨⟨⟨f0, f1⟩, f2, f3⟩, ⟨c0, c1⟩, c2, c3⟩, ⟨⟨c4, c5⟩, c6, c7⟩, ⟨c8, c9⟩, c10, c11, c12⟩, fl⟩ := S7.out.tree
 obtain ⟨⟨⟨⟨d0, d1, d2⟩, d3, d4, d5⟩, ⟨d6, d7, d8⟩, d9, d10, d11, d12⟩, dl⟩ := ca_tree KD.out
 go_wp2_with fail
 refine (SP.out _ S7.out.e).mono ?_
 rintro e w8 ⟨rfl, hb⟩
 have S8 := Lib.hid (S7.out.next hb)
 have KDN := Lib.hid (KD.out.below hb KD.out.lt)
 clear KD
 have KD := KDN
 clear KDN
 clear hb f0 f1 f2 f3 c0 c1 c2 c3 c4 c5 c6 c7 c8 c9 c10 c11 c12 fl d0 d1 d2 d3 d4 d5 d6 d7 d8 d9 d10 d11 d12 dl S7
 rcases P1 with _ | _
 ·go_wp2_with fail
  go_ret
  exact ⟨rfl, S8.out.b⟩
 ·have hp2 := HR2.out rfl
  subst hp2
  go_wp2_with fail
  go_ret
  exact ⟨rfl, S8.out.b⟩

set_option maxHeartbeats 8000000 in
theorem narrows_0l (v : Fv) (f : Dd.Fd) (x : Dd.Ca) (less needle slack : Int) (A : Option Addr) (c : Nat) (y : List Int) (hyl : y.length ≤ 9223372036854775807) (w : World) (hE : Env w) (hF : FRw w w.heap.size v f) (hY : Rd w w.heap.size 1 A y.length (icells y)) (hv : Dd.vastF f = false) (hshort : y.length ≤ 130) (hc : Dd.callE f x = 0) (hk : ¬ x.k = 3) (h0 : less < 0) :
  Calls Tryz.prog 5 #[fval v f, caval x, .int .i64 less, .int .i64 needle, .int .i64 slack, .slice A y.length c] w fun e w' => e = .returned (.bool true) ∧ Below w.heap.size w w' := by
 have va := fun W (h : Lc w v f x A y W) => vast_any v f W h.raw
 rw [hv] at va
 have cc := fun W (h : Lc w v f x A y W) => dCheckCall_any v f x W (h.rd hv) h.e.sn
 rw [hc] at cc
 have SP := Lib.hid (fun W (h : Env W) => spoken_any W h)
 have HE := Lib.hid hE
 have q1 : (x.k == 3) = false := beq_eq_false_iff_ne.2 hk
 have q2 : decide (less < 0) = true := decide_eq_true h0
 have S0 := Lib.hid (Lc.new (x := x) hE hF hY)
 have d1 : decide ((y.length : Int) > 130) = false := decide_eq_false (by omega)
 simp only [fval_def, caval_def] at va cc S0 ⊢
 have VA := Lib.hid va
 have CC := Lib.hid cc
 clear hF hv hE hY hc hk h0 va cc
 go_enter Tryz.func5, Tryz.ntmps5
 obtain ⟨⟨⟨⟨⟨f0, f1⟩, f2, f3⟩, ⟨c0, c1⟩, c2, c3⟩, ⟨⟨c4, c5⟩, c6, c7⟩, ⟨c8, c9⟩, c10, c11, c12⟩, fl⟩ := S0.out.tree
 go_wp2_with fail
 refine (VA.out _ S0.out).mono ?_
 rintro e w1 ⟨rfl, hb⟩
 have S1 := Lib.hid (S0.out.next hb)
 clear hb f0 f1 f2 f3 c0 c1 c2 c3 c4 c5 c6 c7 c8 c9 c10 c11 c12 fl S0
 obtain ⟨⟨⟨⟨⟨f0, f1⟩, f2, f3⟩, ⟨c0, c1⟩, c2, c3⟩, ⟨⟨c4, c5⟩, c6, c7⟩, ⟨c8, c9⟩, c10, c11, c12⟩, fl⟩ := S1.out.tree
 go_wp2_with fail
 refine (CC.out _ S1.out).mono ?_
 rintro e w2 ⟨rfl, hb⟩
 have S2 := Lib.hid (S1.out.next hb)
 clear hb f0 f1 f2 f3 c0 c1 c2 c3 c4 c5 c6 c7 c8 c9 c10 c11 c12 fl S1
 obtain ⟨⟨⟨⟨⟨f0, f1⟩, f2, f3⟩, ⟨c0, c1⟩, c2, c3⟩, ⟨⟨c4, c5⟩, c6, c7⟩, ⟨c8, c9⟩, c10, c11, c12⟩, fl⟩ := S2.out.tree
 have hbn := Below.rowNew ((Below.refl w2.heap.size w2).alloc (Nat.le_refl _) (.cells #[.int .u8 0, .int .i64 0, .int .i64 0, .int .i64 0, .int .i64 0, .int .i64 0, .int .i64 0, .int .i64 0, .int .i64 0, .int .i64 0, .int .i64 0, .int .i64 0, .int .i64 0] 42)) (Nat.le_refl _) #[.int .u8 x.k, .int .i64 x.l, .int .i64 x.o, .int .i64 x.a, .int .i64 x.b, .int .i64 x.s, .int .i64 x.e, .int .i64 x.c.b, .int .i64 x.c.n, .int .i64 x.c.l, .int .i64 x.c.y, .int .i64 x.c.w, .int .i64 x.c.s]
 have S2n := Lib.hid (S2.out.next hbn)
 have hgl : w.heap.size + 1 < w2.heap.size := S2.out.kC.lt
 have KD := Lib.hid ((Bk.new w2 42 #[.int .u8 0, .int .i64 0, .int .i64 0, .int .i64 0, .int .i64 0, .int .i64 0, .int .i64 0, .int .i64 0, .int .i64 0, .int .i64 0, .int .i64 0, .int .i64 0, .int .i64 0]).row #[.int .u8 x.k, .int .i64 x.l, .int .i64 x.o, .int .i64 x.a, .int .i64 x.b, .int .i64 x.s, .int .i64 x.e, .int .i64 x.c.b, .int .i64 x.c.n, .int .i64 x.c.l, .int .i64 x.c.y, .int .i64 x.c.w, .int .i64 x.c.s])
 clear hbn
 go_upto_region 4 with (refine wpList_store_row rfl 42 (.tmp 13) (.tmp 32) rfl w2.heap.size _ rfl rfl 42 _ (Bk.new w2 42 #[.int .u8 0, .int .i64 0, .int .i64 0, .int .i64 0, .int .i64 0, .int .i64 0, .int .i64 0, .int .i64 0, .int .i64 0, .int .i64 0, .int .i64 0, .int .i64 0, .int .i64 0]) (by kernel_rfl) rfl (by kernel_rfl) ?_)
 refine wp_cutW (fun V => Lc w v f x A y V ∧ Bk V w2.heap.size 42 #[.int .u8 x.k, .int .i64 x.l, .int .i64 x.o, .int .i64 x.a, .int .i64 x.b, .int .i64 x.s, .int .i64 x.e, .int .i64 x.c.b, .int .i64 x.c.n, .int .i64 x.c.l, .int .i64 x.c.y, .int .i64 x.c.w, .int .i64 x.c.s]) ⟨S2n.out, KD.out⟩ ?_
 rintro W2 ⟨hs, hkd⟩
 have S3 := Lib.hid hs
 clear f0 f1 f2 f3 c0 c1 c2 c3 c4 c5 c6 c7 c8 c9 c10 c11 c12 fl KD S2 S2n hs
 have KD := Lib.hid hkd
 clear hkd
 obtain ⟨⟨⟨⟨⟨f0, f1⟩, f2, f3⟩, ⟨c0, c1⟩, c2, c3⟩, ⟨⟨c4, c5⟩, c6, c7⟩, ⟨c8, c9⟩, c10, c11, c12⟩, fl⟩ := S3.out.tree
 obtain ⟨⟨⟨⟨d0, d1, d2⟩, d3, d4, d5⟩, ⟨d6, d7, d8⟩, d9, d10, d11, d12⟩, dl⟩ := ca_tree KD.out
 go_wp2_with fail
 refine (SP.out _ S3.out.e).mono ?_
 rintro e w4 ⟨rfl, hb⟩
 have S4 := Lib.hid (S3.out.next hb)
 have KDN := Lib.hid (KD.out.below hb KD.out.lt)
 clear KD
 have KD := KDN
 clear KDN
 clear hb f0 f1 f2 f3 c0 c1 c2 c3 c4 c5 c6 c7 c8 c9 c10 c11 c12 fl d0 d1 d2 d3 d4 d5 d6 d7 d8 d9 d10 d11 d12 dl S3
 obtain ⟨⟨⟨⟨⟨f0, f1⟩, f2, f3⟩, ⟨c0, c1⟩, c2, c3⟩, ⟨⟨c4, c5⟩, c6, c7⟩, ⟨c8, c9⟩, c10, c11, c12⟩, fl⟩ := S4.out.tree
 obtain ⟨⟨⟨⟨d0, d1, d2⟩, d3, d4, d5⟩, ⟨d6, d7, d8⟩, d9, d10, d11, d12⟩, dl⟩ := ca_tree KD.out
 go_wp2_with fail
 go_ret
 exact ⟨rfl, S4.out.b⟩

set_option maxHeartbeats 8000000 in
theorem narrows_0h (v : Fv) (f : Dd.Fd) (x : Dd.Ca) (less needle slack : Int) (A : Option Addr) (c : Nat) (y : List Int) (hyl : y.length ≤ 9223372036854775807) (w : World) (hE : Env w) (hF : FRw w w.heap.size v f) (hY : Rd w w.heap.size 1 A y.length (icells y)) (hv : Dd.vastF f = false) (hshort : y.length ≤ 130) (hc : Dd.callE f x = 0) (hk : ¬ x.k = 3) (h0 : ¬ less < 0) (h1 : x.e < less) :
  Calls Tryz.prog 5 #[fval v f, caval x, .int .i64 less, .int .i64 needle, .int .i64 slack, .slice A y.length c] w fun e w' => e = .returned (.bool true) ∧ Below w.heap.size w w' := by
 have va := fun W (h : Lc w v f x A y W) => vast_any v f W h.raw
 rw [hv] at va
 have cc := fun W (h : Lc w v f x A y W) => dCheckCall_any v f x W (h.rd hv) h.e.sn
 rw [hc] at cc
 have SP := Lib.hid (fun W (h : Env W) => spoken_any W h)
 have HE := Lib.hid hE
 have q1 : (x.k == 3) = false := beq_eq_false_iff_ne.2 hk
 have q2 : decide (less < 0) = false := decide_eq_false h0
 have q3 : decide (less > x.e) = true := decide_eq_true (by omega)
 have S0 := Lib.hid (Lc.new (x := x) hE hF hY)
 have d1 : decide ((y.length : Int) > 130) = false := decide_eq_false (by omega)
 simp only [fval_def, caval_def] at va cc S0 ⊢
 have VA := Lib.hid va
 have CC := Lib.hid cc
 clear hF hv hE hY hc hk h0 h1 va cc
 go_enter Tryz.func5, Tryz.ntmps5
 obtain ⟨⟨⟨⟨⟨f0, f1⟩, f2, f3⟩, ⟨c0, c1⟩, c2, c3⟩, ⟨⟨c4, c5⟩, c6, c7⟩, ⟨c8, c9⟩, c10, c11, c12⟩, fl⟩ := S0.out.tree
 go_wp2_with fail
 refine (VA.out _ S0.out).mono ?_
 rintro e w1 ⟨rfl, hb⟩
 have S1 := Lib.hid (S0.out.next hb)
 clear hb f0 f1 f2 f3 c0 c1 c2 c3 c4 c5 c6 c7 c8 c9 c10 c11 c12 fl S0
 obtain ⟨⟨⟨⟨⟨f0, f1⟩, f2, f3⟩, ⟨c0, c1⟩, c2, c3⟩, ⟨⟨c4, c5⟩, c6, c7⟩, ⟨c8, c9⟩, c10, c11, c12⟩, fl⟩ := S1.out.tree
 go_wp2_with fail
 refine (CC.out _ S1.out).mono ?_
 rintro e w2 ⟨rfl, hb⟩
 have S2 := Lib.hid (S1.out.next hb)
 clear hb f0 f1 f2 f3 c0 c1 c2 c3 c4 c5 c6 c7 c8 c9 c10 c11 c12 fl S1
 obtain ⟨⟨⟨⟨⟨f0, f1⟩, f2, f3⟩, ⟨c0, c1⟩, c2, c3⟩, ⟨⟨c4, c5⟩, c6, c7⟩, ⟨c8, c9⟩, c10, c11, c12⟩, fl⟩ := S2.out.tree
 have hbn := Below.rowNew ((Below.refl w2.heap.size w2).alloc (Nat.le_refl _) (.cells #[.int .u8 0, .int .i64 0, .int .i64 0, .int .i64 0, .int .i64 0, .int .i64 0, .int .i64 0, .int .i64 0, .int .i64 0, .int .i64 0, .int .i64 0, .int .i64 0, .int .i64 0] 42)) (Nat.le_refl _) #[.int .u8 x.k, .int .i64 x.l, .int .i64 x.o, .int .i64 x.a, .int .i64 x.b, .int .i64 x.s, .int .i64 x.e, .int .i64 x.c.b, .int .i64 x.c.n, .int .i64 x.c.l, .int .i64 x.c.y, .int .i64 x.c.w, .int .i64 x.c.s]
 have S2n := Lib.hid (S2.out.next hbn)
 have hgl : w.heap.size + 1 < w2.heap.size := S2.out.kC.lt
 have KD := Lib.hid ((Bk.new w2 42 #[.int .u8 0, .int .i64 0, .int .i64 0, .int .i64 0, .int .i64 0, .int .i64 0, .int .i64 0, .int .i64 0, .int .i64 0, .int .i64 0, .int .i64 0, .int .i64 0, .int .i64 0]).row #[.int .u8 x.k, .int .i64 x.l, .int .i64 x.o, .int .i64 x.a, .int .i64 x.b, .int .i64 x.s, .int .i64 x.e, .int .i64 x.c.b, .int .i64 x.c.n, .int .i64 x.c.l, .int .i64 x.c.y, .int .i64 x.c.w, .int .i64 x.c.s])
 clear hbn
 go_upto_region 4 with (refine wpList_store_row rfl 42 (.tmp 13) (.tmp 32) rfl w2.heap.size _ rfl rfl 42 _ (Bk.new w2 42 #[.int .u8 0, .int .i64 0, .int .i64 0, .int .i64 0, .int .i64 0, .int .i64 0, .int .i64 0, .int .i64 0, .int .i64 0, .int .i64 0, .int .i64 0, .int .i64 0, .int .i64 0]) (by kernel_rfl) rfl (by kernel_rfl) ?_)
 refine wp_cutW (fun V => Lc w v f x A y V ∧ Bk V w2.heap.size 42 #[.int .u8 x.k, .int .i64 x.l, .int .i64 x.o, .int .i64 x.a, .int .i64 x.b, .int .i64 x.s, .int .i64 x.e, .int .i64 x.c.b, .int .i64 x.c.n, .int .i64 x.c.l, .int .i64 x.c.y, .int .i64 x.c.w, .int .i64 x.c.s]) ⟨S2n.out, KD.out⟩ ?_
 rintro W2 ⟨hs, hkd⟩
 have S3 := Lib.hid hs
 clear f0 f1 f2 f3 c0 c1 c2 c3 c4 c5 c6 c7 c8 c9 c10 c11 c12 fl KD S2 S2n hs
 have KD := Lib.hid hkd
 clear hkd
 obtain ⟨⟨⟨⟨⟨f0, f1⟩, f2, f3⟩, ⟨c0, c1⟩, c2, c3⟩, ⟨⟨c4, c5⟩, c6, c7⟩, ⟨c8, c9⟩, c10, c11, c12⟩, fl⟩ := S3.out.tree
 obtain ⟨⟨⟨⟨d0, d1, d2⟩, d3, d4, d5⟩, ⟨d6, d7, d8⟩, d9, d10, d11, d12⟩, dl⟩ := ca_tree KD.out
 go_wp2_with fail
 refine (SP.out _ S3.out.e).mono ?_
 rintro e w4 ⟨rfl, hb⟩
 have S4 := Lib.hid (S3.out.next hb)
 have KDN := Lib.hid (KD.out.below hb KD.out.lt)
 clear KD
 have KD := KDN
 clear KDN
 clear hb f0 f1 f2 f3 c0 c1 c2 c3 c4 c5 c6 c7 c8 c9 c10 c11 c12 fl d0 d1 d2 d3 d4 d5 d6 d7 d8 d9 d10 d11 d12 dl S3
 obtain ⟨⟨⟨⟨⟨f0, f1⟩, f2, f3⟩, ⟨c0, c1⟩, c2, c3⟩, ⟨⟨c4, c5⟩, c6, c7⟩, ⟨c8, c9⟩, c10, c11, c12⟩, fl⟩ := S4.out.tree
 obtain ⟨⟨⟨⟨d0, d1, d2⟩, d3, d4, d5⟩, ⟨d6, d7, d8⟩, d9, d10, d11, d12⟩, dl⟩ := ca_tree KD.out
 go_wp2_with fail
 go_ret
 exact ⟨rfl, S4.out.b⟩

set_option maxHeartbeats 8000000 in
theorem narrows_0e (v : Fv) (f : Dd.Fd) (x : Dd.Ca) (less needle slack : Int) (A : Option Addr) (c : Nat) (y : List Int) (hyl : y.length ≤ 9223372036854775807) (w : World) (hE : Env w) (hF : FRw w w.heap.size v f) (hY : Rd w w.heap.size 1 A y.length (icells y)) (hv : Dd.vastF f = false) (hshort : y.length ≤ 130) (hc : Dd.callE f x = 0) (hk : ¬ x.k = 3) (h0 : ¬ less < 0) (h1 : ¬ x.e < less) (he : ¬ (Dd.allowsF f ⟨x.k, x.l, x.o, x.a, x.b, x.s, less, x.c⟩ y).2 = 0) :
  Calls Tryz.prog 5 #[fval v f, caval x, .int .i64 less, .int .i64 needle, .int .i64 slack, .slice A y.length c] w fun e w' => e = .returned (.bool true) ∧ Below w.heap.size w w' := by
 have va := fun W (h : Lc w v f x A y W) => vast_any v f W h.raw
 rw [hv] at va
 have cc := fun W (h : Lc w v f x A y W) => dCheckCall_any v f x W (h.rd hv) h.e.sn
 rw [hc] at cc
 obtain ⟨z, hz⟩ : ∃ z : Dd.Ca, ⟨x.k, x.l, x.o, x.a, x.b, x.s, less, x.c⟩ = z := ⟨_, rfl⟩
 have HZ := Lib.hid hz
 rw [hz] at he
 have al := fun W (h : Lc w v f x A y W) => dAllows_any v f z A c y W (h.rd hv) h.e.sn h.yy (by omega)
 have al2 := fun W (h : Lc w v f x A y W) => dAllows_any v f x A c y W (h.rd hv) h.e.sn h.yy (by omega)
 obtain ⟨P1, hP1⟩ : ∃ P, (Dd.allowsF f z y).1 = P := ⟨_, rfl⟩
 obtain ⟨E1, hE1⟩ : ∃ P, (Dd.allowsF f z y).2 = P := ⟨_, rfl⟩
 obtain ⟨P2, hP2⟩ : ∃ P, (Dd.allowsF f x y).1 = P := ⟨_, rfl⟩
 obtain ⟨E2, hE2⟩ : ∃ P, (Dd.allowsF f x y).2 = P := ⟨_, rfl⟩
 rw [hP1, hE1] at al
 rw [hP2, hE2] at al2
 rw [hE1] at he
 have e1 : (E1 != 0) = true := by simp [he]
 have SP := Lib.hid (fun W (h : Env W) => spoken_any W h)
 have HE := Lib.hid hE
 have q1 : (x.k == 3) = false := beq_eq_false_iff_ne.2 hk
 have q2 : decide (less < 0) = false := decide_eq_false h0
 have q3 : decide (less > x.e) = false := decide_eq_false (by omega)
 have S0 := Lib.hid (Lc.new (x := x) hE hF hY)
 have d1 : decide ((y.length : Int) > 130) = false := decide_eq_false (by omega)
 simp only [fval_def, caval_def] at va cc al al2 S0 ⊢
 have VA := Lib.hid va
 have CC := Lib.hid cc
 have AL := Lib.hid al
 have AL2 := Lib.hid al2
 clear hF hv hE hY hc hP1 hP2 hE1 hE2 he hz hk h0 h1 va cc al al2
 go_enter Tryz.func5, Tryz.ntmps5
 obtain ⟨⟨⟨⟨⟨f0, f1⟩, f2, f3⟩, ⟨c0, c1⟩, c2, c3⟩, ⟨⟨c4, c5⟩, c6, c7⟩, ⟨c8, c9⟩, c10, c11, c12⟩, fl⟩ := S0.out.tree
 go_wp2_with fail
 refine (VA.out _ S0.out).mono ?_
 rintro e w1 ⟨rfl, hb⟩
 have S1 := Lib.hid (S0.out.next hb)
 clear hb f0 f1 f2 f3 c0 c1 c2 c3 c4 c5 c6 c7 c8 c9 c10 c11 c12 fl S0
 obtain ⟨⟨⟨⟨⟨f0, f1⟩, f2, f3⟩, ⟨c0, c1⟩, c2, c3⟩, ⟨⟨c4, c5⟩, c6, c7⟩, ⟨c8, c9⟩, c10, c11, c12⟩, fl⟩ := S1.out.tree
 go_wp2_with fail
 refine (CC.out _ S1.out).mono ?_
 rintro e w2 ⟨rfl, hb⟩
 have S2 := Lib.hid (S1.out.next hb)
 clear hb f0 f1 f2 f3 c0 c1 c2 c3 c4 c5 c6 c7 c8 c9 c10 c11 c12 fl S1
 obtain ⟨⟨⟨⟨⟨f0, f1⟩, f2, f3⟩, ⟨c0, c1⟩, c2, c3⟩, ⟨⟨c4, c5⟩, c6, c7⟩, ⟨c8, c9⟩, c10, c11, c12⟩, fl⟩ := S2.out.tree
 have hbn := Below.rowNew ((Below.refl w2.heap.size w2).alloc (Nat.le_refl _) (.cells #[.int .u8 0, .int .i64 0, .int .i64 0, .int .i64 0, .int .i64 0, .int .i64 0, .int .i64 0, .int .i64 0, .int .i64 0, .int .i64 0, .int .i64 0, .int .i64 0, .int .i64 0] 42)) (Nat.le_refl _) #[.int .u8 x.k, .int .i64 x.l, .int .i64 x.o, .int .i64 x.a, .int .i64 x.b, .int .i64 x.s, .int .i64 x.e, .int .i64 x.c.b, .int .i64 x.c.n, .int .i64 x.c.l, .int .i64 x.c.y, .int .i64 x.c.w, .int .i64 x.c.s]
 have S2n := Lib.hid (S2.out.next hbn)
 have hgl : w.heap.size + 1 < w2.heap.size := S2.out.kC.lt
 have KD := Lib.hid ((Bk.new w2 42 #[.int .u8 0, .int .i64 0, .int .i64 0, .int .i64 0, .int .i64 0, .int .i64 0, .int .i64 0, .int .i64 0, .int .i64 0, .int .i64 0, .int .i64 0, .int .i64 0, .int .i64 0]).row #[.int .u8 x.k, .int .i64 x.l, .int .i64 x.o, .int .i64 x.a, .int .i64 x.b, .int .i64 x.s, .int .i64 x.e, .int .i64 x.c.b, .int .i64 x.c.n, .int .i64 x.c.l, .int .i64 x.c.y, .int .i64 x.c.w, .int .i64 x.c.s])
 clear hbn
 go_upto_region 4 with (refine wpList_store_row rfl 42 (.tmp 13) (.tmp 32) rfl w2.heap.size _ rfl rfl 42 _ (Bk.new w2 42 #[.int .u8 0, .int .i64 0, .int .i64 0, .int .i64 0, .int .i64 0, .int .i64 0, .int .i64 0, .int .i64 0, .int .i64 0, .int .i64 0, .int .i64 0, .int .i64 0, .int .i64 0]) (by kernel_rfl) rfl (by kernel_rfl) ?_)
 refine wp_cutW (fun V => Lc w v f x A y V ∧ Bk V w2.heap.size 42 #[.int .u8 x.k, .int .i64 x.l, .int .i64 x.o, .int .i64 x.a, .int .i64 x.b, .int .i64 x.s, .int .i64 x.e, .int .i64 x.c.b, .int .i64 x.c.n, .int .i64 x.c.l, .int .i64 x.c.y, .int .i64 x.c.w, .int .i64 x.c.s]) ⟨S2n.out, KD.out⟩ ?_
 rintro W2 ⟨hs, hkd⟩
 have S3 := Lib.hid hs
 clear f0 f1 f2 f3 c0 c1 c2 c3 c4 c5 c6 c7 c8 c9 c10 c11 c12 fl KD S2 S2n hs
 have KD := Lib.hid hkd
 clear hkd
 obtain ⟨⟨⟨⟨⟨f0, f1⟩, f2, f3⟩, ⟨c0, c1⟩, c2, c3⟩, ⟨⟨c4, c5⟩, c6, c7⟩, ⟨c8, c9⟩, c10, c11, c12⟩, fl⟩ := S3.out.tree
 obtain ⟨⟨⟨⟨d0, d1, d2⟩, d3, d4, d5⟩, ⟨d6, d7, d8⟩, d9, d10, d11, d12⟩, dl⟩ := ca_tree KD.out
 have fz6 := KD.out.frozen 6
 have KN := Lib.hid (KD.out.setA 6 (.int .i64 less) #[.int .u8 x.k, .int .i64 x.l, .int .i64 x.o, .int .i64 x.a, .int .i64 x.b, .int .i64 x.s, .int .i64 less, .int .i64 x.c.b, .int .i64 x.c.n, .int .i64 x.c.l, .int .i64 x.c.y, .int .i64 x.c.w, .int .i64 x.c.s] (by simp only [List.setIfInBounds_toArray, List.set_cons_succ, List.set_cons_zero]))
 have SN := Lib.hid (S3.out.far HE.out hgl 6 (.int .i64 less))
 go_upto_region 12 with fail
 refine wp_cutW (fun V => Lc w v f x A y V ∧ Bk V w2.heap.size 42 #[.int .u8 z.k, .int .i64 z.l, .int .i64 z.o, .int .i64 z.a, .int .i64 z.b, .int .i64 z.s, .int .i64 z.e, .int .i64 z.c.b, .int .i64 z.c.n, .int .i64 z.c.l, .int .i64 z.c.y, .int .i64 z.c.w, .int .i64 z.c.s]) ⟨SN.out, by have h1 := KN.out; have h2 := HZ.out; subst h2; exact h1⟩ ?_
 rintro W3 ⟨hs, hkd⟩
 have S4 := Lib.hid hs
 clear f0 f1 f2 f3 c0 c1 c2 c3 c4 c5 c6 c7 c8 c9 c10 c11 c12 fl d0 d1 d2 d3 d4 d5 d6 d7 d8 d9 d10 d11 d12 dl fz6 KD KN SN S3 hs
 have KD := Lib.hid hkd
 clear hkd
 obtain ⟨⟨⟨⟨⟨f0, f1⟩, f2, f3⟩, ⟨c0, c1⟩, c2, c3⟩, ⟨⟨c4, c5⟩, c6, c7⟩, ⟨c8, c9⟩, c10, c11, c12⟩, fl⟩ := S4.out.tree
 obtain ⟨⟨⟨⟨d0, d1, d2⟩, d3, d4, d5⟩, ⟨d6, d7, d8⟩, d9, d10, d11, d12⟩, dl⟩ := ca_tree KD.out
 go_wp2_with fail
 refine (AL.out _ S4.out).mono ?_
 rintro e w5 ⟨rfl, hb⟩
 have S5 := Lib.hid (S4.out.next hb)
 have KDN := Lib.hid (KD.out.below hb KD.out.lt)
 clear KD
 have KD := KDN
 clear KDN
 clear hb f0 f1 f2 f3 c0 c1 c2 c3 c4 c5 c6 c7 c8 c9 c10 c11 c12 fl d0 d1 d2 d3 d4 d5 d6 d7 d8 d9 d10 d11 d12 dl S4
 obtain ⟨⟨⟨⟨⟨f0, f1⟩, f2, f3⟩, ⟨c0, c1⟩, c2, c3⟩, ⟨⟨c4, c5⟩, c6, c7⟩, ⟨c8, c9⟩, c10, c11, c12⟩, fl⟩ := S5.out.tree
 obtain ⟨⟨⟨⟨d0, d1, d2⟩, d3, d4, d5⟩, ⟨d6, d7, d8⟩, d9, d10, d11, d12⟩, dl⟩ := ca_tree KD.out
 go_wp2_with fail
 refine (AL2.out _ S5.out).mono ?_
 rintro e w6 ⟨rfl, hb⟩
 have S6 := Lib.hid (S5.out.next hb)
 have KDN := Lib.hid (KD.out.below hb KD.out.lt)
 clear KD
 have KD := KDN
 clear KDN
 clear hb f0 f1 f2 f3 c0 c1 c2 c3 c4 c5 c6 c7 c8 c9 c10 c11 c12 fl d0 d1 d2 d3 d4 d5 d6 d7 d8 d9 d10 d11 d12 dl S5
 obtain ⟨⟨⟨⟨⟨f0, f1⟩, f2, f3⟩, ⟨c0, c1⟩, c2, c3⟩, ⟨⟨c4, c5⟩, c6, c7⟩, ⟨c8, c9⟩, c10, c11, c12⟩, fl⟩ := S6.out.tree
 obtain ⟨⟨⟨⟨d0, d1, d2⟩, d3, d4, d5⟩, ⟨d6, d7, d8⟩, d9, d10, d11, d12⟩, dl⟩ := ca_tree KD.out
 go_wp2_with fail
 refine (SP.out _ S6.out.e).mono ?_
 rintro e w7 ⟨rfl, hb⟩
 have S7 := Lib.hid (S6.out.next hb)
 have KDN := Lib.hid (KD.out.below hb KD.out.lt)
 clear KD
 have KD := KDN
 clear KDN
 clear hb f0 f1 f2 f3 c0 c1 c2 c3 c4 c5 c6 c7 c8 c9 c10 c11 c12 fl d0 d1 d2 d3 d4 d5 d6 d7 d8 d9 d10 d11 d12 dl S6
 obtain ⟨⟨⟨⟨⟨f0, f1⟩, f2, f3⟩, ⟨c0, c1⟩, c2, c3⟩, ⟨⟨c4, c5⟩, c6, c7⟩, ⟨c8, c9⟩, c10, c11, c12⟩, fl⟩ := S7.out.tree
 obtain ⟨⟨⟨⟨d0, d1, d2⟩, d3, d4, d5⟩, ⟨d6, d7, d8⟩, d9, d10, d11, d12⟩, dl⟩ := ca_tree KD.out
 go_wp2_with fail
 go_ret
 exact ⟨rfl, S7.out.b⟩

set_option maxHeartbeats 8000000 in
theorem narrows_0o (v : Fv) (f : Dd.Fd) (x : Dd.Ca) (less needle slack : Int) (A : Option Addr) (c : Nat) (y : List Int) (hyl : y.length ≤ 9223372036854775807) (w : World) (hE : Env w) (hF : FRw w w.heap.size v f) (hY : Rd w w.heap.size 1 A y.length (icells y)) (hv : Dd.vastF f = false) (hshort : y.length ≤ 130) (hc : Dd.callE f x = 0) (hk : ¬ x.k = 3) (h0 : ¬ less < 0) (h1 : ¬ x.e < less) (he : (Dd.allowsF f ⟨x.k, x.l, x.o, x.a, x.b, x.s, less, x.c⟩ y).2 = 0) :
  Calls Tryz.prog 5 #[fval v f, caval x, .int .i64 less, .int .i64 needle, .int .i64 slack, .slice A y.length c] w fun e w' => e = .returned (.bool true) ∧ Below w.heap.size w w' := by
 have va := fun W (h : Lc w v f x A y W) => vast_any v f W h.raw
 rw [hv] at va
 have cc := fun W (h : Lc w v f x A y W) => dCheckCall_any v f x W (h.rd hv) h.e.sn
 rw [hc] at cc
 obtain ⟨r1, r2⟩ := Dd.narrow_says (y := y) (z := ⟨x.k, x.l, x.o, x.a, x.b, x.s, less, x.c⟩) hc he (fun h1 h2 h3 h4 => Dd.allows_less h1 h2 h3 hk (by omega) rfl h4)
 obtain ⟨z, hz⟩ : ∃ z : Dd.Ca, ⟨x.k, x.l, x.o, x.a, x.b, x.s, less, x.c⟩ = z := ⟨_, rfl⟩
 have HZ := Lib.hid hz
 rw [hz] at he r2
 have al := fun W (h : Lc w v f x A y W) => dAllows_any v f z A c y W (h.rd hv) h.e.sn h.yy (by omega)
 have al2 := fun W (h : Lc w v f x A y W) => dAllows_any v f x A c y W (h.rd hv) h.e.sn h.yy (by omega)
 obtain ⟨P1, hP1⟩ : ∃ P, (Dd.allowsF f z y).1 = P := ⟨_, rfl⟩
 obtain ⟨E1, hE1⟩ : ∃ P, (Dd.allowsF f z y).2 = P := ⟨_, rfl⟩
 obtain ⟨P2, hP2⟩ : ∃ P, (Dd.allowsF f x y).1 = P := ⟨_, rfl⟩
 obtain ⟨E2, hE2⟩ : ∃ P, (Dd.allowsF f x y).2 = P := ⟨_, rfl⟩
 rw [hP1, hE1] at al
 rw [hP2, hE2] at al2
 rw [hE1] at he
 rw [hE2] at r1
 rw [hP1, hP2] at r2
 subst he r1
 have HR2 := Lib.hid r2
 have SP := Lib.hid (fun W (h : Env W) => spoken_any W h)
 have HE := Lib.hid hE
 have q1 : (x.k == 3) = false := beq_eq_false_iff_ne.2 hk
 have q2 : decide (less < 0) = false := decide_eq_false h0
 have q3 : decide (less > x.e) = false := decide_eq_false (by omega)
 have S0 := Lib.hid (Lc.new (x := x) hE hF hY)
 have d1 : decide ((y.length : Int) > 130) = false := decide_eq_false (by omega)
 simp only [fval_def, caval_def] at va cc al al2 S0 ⊢
 have VA := Lib.hid va
 have CC := Lib.hid cc
 have AL := Lib.hid al
 have AL2 := Lib.hid al2
 clear hF hv hE hY hc hP1 hP2 hE1 hE2 r2 hz hk h0 h1 va cc al al2
 go_enter Tryz.func5, Tryz.ntmps5
 obtain ⟨⟨⟨⟨⟨f0, f1⟩, f2, f3⟩, ⟨c0, c1⟩, c2, c3⟩, ⟨⟨c4, c5⟩, c6, c7⟩, ⟨c8, c9⟩, c10, c11, c12⟩, fl⟩ := S0.out.tree
 go_wp2_with fail
 refine (VA.out _ S0.out).mono ?_
 rintro e w1 ⟨rfl, hb⟩
 have S1 := Lib.hid (S0.out.next hb)
 clear hb f0 f1 f2 f3 c0 c1 c2 c3 c4 c5 c6 c7 c8 c9 c10 c11 c12 fl S0
 obtain ⟨⟨⟨⟨⟨f0, f1⟩, f2, f3⟩, ⟨c0, c1⟩, c2, c3⟩, ⟨⟨c4, c5⟩, c6, c7⟩, ⟨c8, c9⟩, c10, c11, c12⟩, fl⟩ := S1.out.tree
 go_wp2_with fail
 refine (CC.out _ S1.out).mono ?_
 rintro e w2 ⟨rfl, hb⟩
 have S2 := Lib.hid (S1.out.next hb)
 clear hb f0 f1 f2 f3 c0 c1 c2 c3 c4 c5 c6 c7 c8 c9 c10 c11 c12 fl S1
 obtain ⟨⟨⟨⟨⟨f0, f1⟩, f2, f3⟩, ⟨c0, c1⟩, c2, c3⟩, ⟨⟨c4, c5⟩, c6, c7⟩, ⟨c8, c9⟩, c10, c11, c12⟩, fl⟩ := S2.out.tree
 have hbn := Below.rowNew ((Below.refl w2.heap.size w2).alloc (Nat.le_refl _) (.cells #[.int .u8 0, .int .i64 0, .int .i64 0, .int .i64 0, .int .i64 0, .int .i64 0, .int .i64 0, .int .i64 0, .int .i64 0, .int .i64 0, .int .i64 0, .int .i64 0, .int .i64 0] 42)) (Nat.le_refl _) #[.int .u8 x.k, .int .i64 x.l, .int .i64 x.o, .int .i64 x.a, .int .i64 x.b, .int .i64 x.s, .int .i64 x.e, .int .i64 x.c.b, .int .i64 x.c.n, .int .i64 x.c.l, .int .i64 x.c.y, .int .i64 x.c.w, .int .i64 x.c.s]
 have S2n := Lib.hid (S2.out.next hbn)
 have hgl : w.heap.size + 1 < w2.heap.size := S2.out.kC.lt
 have KD := Lib.hid ((Bk.new w2 42 #[.int .u8 0, .int .i64 0, .int .i64 0, .int .i64 0, .int .i64 0, .int .i64 0, .int .i64 0, .int .i64 0, .int .i64 0, .int .i64 0, .int .i64 0, .int .i64 0, .int .i64 0]).row #[.int .u8 x.k, .int .i64 x.l, .int .i64 x.o, .int .i64 x.a, .int .i64 x.b, .int .i64 x.s, .int .i64 x.e, .int .i64 x.c.b, .int .i64 x.c.n, .int .i64 x.c.l, .int .i64 x.c.y, .int .i64 x.c.w, .int .i64 x.c.s])
 clear hbn
 go_upto_region 4 with (refine wpList_store_row rfl 42 (.tmp 13) (.tmp 32) rfl w2.heap.size _ rfl rfl 42 _ (Bk.new w2 42 #[.int .u8 0, .int .i64 0, .int .i64 0, .int .i64 0, .int .i64 0, .int .i64 0, .int .i64 0, .int .i64 0, .int .i64 0, .int .i64 0, .int .i64 0, .int .i64 0, .int .i64 0]) (by kernel_rfl) rfl (by kernel_rfl) ?_)
 refine wp_cutW (fun V => Lc w v f x A y V ∧ Bk V w2.heap.size 42 #[.int .u8 x.k, .int .i64 x.l, .int .i64 x.o, .int .i64 x.a, .int .i64 x.b, .int .i64 x.s, .int .i64 x.e, .int .i64 x.c.b, .int .i64 x.c.n, .int .i64 x.c.l, .int .i64 x.c.y, .int .i64 x.c.w, .int .i64 x.c.s]) ⟨S2n.out, KD.out⟩ ?_
 rintro W2 ⟨hs, hkd⟩
 have S3 := Lib.hid hs
 clear f0 f1 f2 f3 c0 c1 c2 c3 c4 c5 c6 c7 c8 c9 c10 c11 c12 fl KD S2 S2n hs
 have KD := Lib.hid hkd
 clear hkd
 obtain ⟨⟨⟨⟨⟨f0, f1⟩, f2, f3⟩, ⟨c0, c1⟩, c2, c3⟩, ⟨⟨c4, c5⟩, c6, c7⟩, ⟨c8, c9⟩, c10, c11, c12⟩, fl⟩ := S3.out.tree
 obtain ⟨⟨⟨⟨d0, d1, d2⟩, d3, d4, d5⟩, ⟨d6, d7, d8⟩, d9, d10, d11, d12⟩, dl⟩ := ca_tree KD.out
 have fz6 := KD.out.frozen 6
 have KN := Lib.hid (KD.out.setA 6 (.int .i64 less) #[.int .u8 x.k, .int .i64 x.l, .int .i64 x.o, .int .i64 x.a, .int .i64 x.b, .int .i64 x.s, .int .i64 less, .int .i64 x.c.b, .int .i64 x.c.n, .int .i64 x.c.l, .int .i64 x.c.y, .int .i64 x.c.w, .int .i64 x.c.s] (by simp only [List.setIfInBounds_toArray, List.set_cons_succ, List.set_cons_zero]))
 have SN := Lib.hid (S3.out.far HE.out hgl 6 (.int .i64 less))
 go_upto_region 12 with fail
 refine wp_cutW (fun V => Lc w v f x A y V ∧ Bk V w2.heap.size 42 #[.int .u8 z.k, .int .i64 z.l, .int .i64 z.o, .int .i64 z.a, .int .i64 z.b, .int .i64 z.s, .int .i64 z.e, .int .i64 z.c.b, .int .i64 z.c.n, .int .i64 z.c.l, .int .i64 z.c.y, .int .i64 z.c.w, .int .i64 z.c.s]) ⟨SN.out, by have h1 := KN.out; have h2 := HZ.out; subst h2; exact h1⟩ ?_
 rintro W3 ⟨hs, hkd⟩
 have S4 := Lib.hid hs
 clear f0 f1 f2 f3 c0 c1 c2 c3 c4 c5 c6 c7 c8 c9 c10 c11 c12 fl d0 d1 d2 d3 d4 d5 d6 d7 d8 d9 d10 d11 d12 dl fz6 KD KN SN S3 hs
 have KD := Lib.hid hkd
 clear hkd
 obtain ⟨⟨⟨⟨⟨f0, f1⟩, f2, f3⟩, ⟨c0, c1⟩, c2, c3⟩, ⟨⟨c4, c5⟩, c6, c7⟩, ⟨c8, c9⟩, c10, c11, c12⟩, fl⟩ := S4.out.tree
 obtain ⟨⟨⟨⟨d0, d1, d2⟩, d3, d4, d5⟩, ⟨d6, d7, d8⟩, d9, d10, d11, d12⟩, dl⟩ := ca_tree KD.out
 go_wp2_with fail
 refine (AL.out _ S4.out).mono ?_
 rintro e w5 ⟨rfl, hb⟩
 have S5 := Lib.hid (S4.out.next hb)
 have KDN := Lib.hid (KD.out.below hb KD.out.lt)
 clear KD
 have KD := KDN
 clear KDN
 clear hb f0 f1 f2 f3 c0 c1 c2 c3 c4 c5 c6 c7 c8 c9 c10 c11 c12 fl d0 d1 d2 d3 d4 d5 d6 d7 d8 d9 d10 d11 d12 dl S4
 obtain ⟨⟨⟨⟨⟨f0, f1⟩, f2, f3⟩, ⟨c0, c1⟩, c2, c3⟩, ⟨⟨c4, c5⟩, c6, c7⟩, ⟨c8, c9⟩, c10, c11, c12⟩, fl⟩ := S5.out.tree
 obtain ⟨⟨⟨⟨d0, d1, d2⟩, d3, d4, d5⟩, ⟨d6, d7, d8⟩, d9, d10, d11, d12⟩, dl⟩ := ca_tree KD.out
 go_wp2_with fail
 refine (AL2.out _ S5.out).mono ?_
 rintro e w6 ⟨rfl, hb⟩
 have S6 := Lib.hid (S5.out.next hb)
 have KDN := Lib.hid (KD.out.below hb KD.out.lt)
 clear KD
 have KD := KDN
 clear KDN
 clear hb f0 f1 f2 f3 c0 c1 c2 c3 c4 c5 c6 c7 c8 c9 c10 c11 c12 fl d0 d1 d2 d3 d4 d5 d6 d7 d8 d9 d10 d11 d12 dl S5
 obtain ⟨⟨⟨⟨⟨f0, f1⟩, f2, f3⟩, ⟨c0, c1⟩, c2, c3⟩, ⟨⟨c4, c5⟩, c6, c7⟩, ⟨c8, c9⟩, c10, c11, c12⟩, fl⟩ := S6.out.tree
 obtain ⟨⟨⟨⟨d0, d1, d2⟩, d3, d4, d5⟩, ⟨d6, d7, d8⟩, d9, d10, d11, d12⟩, dl⟩ := ca_tree KD.out
 go_wp2_with fail
 refine (SP.out _ S6.out.e).mono ?_
 rintro e w7 ⟨rfl, hb⟩
 have S7 := Lib.hid (S6.out.next hb)
 have KDN := Lib.hid (KD.out.below hb KD.out.lt)
 clear KD
 have KD := KDN
 clear KDN
 clear hb f0 f1 f2 f3 c0 c1 c2 c3 c4 c5 c6 c7 c8 c9 c10 c11 c12 fl d0 d1 d2 d3 d4 d5 d6 d7 d8 d9 d10 d11 d12 dl S6
 rcases P1 with _ | _
 ·go_wp2_with fail
  go_ret
  exact ⟨rfl, S7.out.b⟩
 ·have hp2 := HR2.out rfl
  subst hp2
  go_wp2_with fail
  go_ret
  exact ⟨rfl, S7.out.b⟩

theorem deedNarrows_any (v : Fv) (f : Dd.Fd) (x : Dd.Ca) (less needle slack : Int) (A : Option Addr) (c : Nat) (y : List Int) (hyl : y.length ≤ 9223372036854775807) (w : World) (hE : Env w) (hF : FRw w w.heap.size v f) (hY : Rd w w.heap.size 1 A y.length (icells y)) :
  Calls Tryz.prog 5 #[fval v f, caval x, .int .i64 less, .int .i64 needle, .int .i64 slack, .slice A y.length c] w fun e w' => e = .returned (.bool true) ∧ Below w.heap.size w w' := by
 rcases hv : Dd.vastF f with _ | _
 ·by_cases hs : 130 < y.length
  ·exact narrows_long v f x less needle slack A c y hyl w hE hF hY hv hs
  have hs' : y.length ≤ 130 := by omega
  by_cases hc : Dd.callE f x = 0
  ·by_cases hk : x.k = 3
   ·rcases hn : Cs.narF ⟨x.c.b, needle, x.c.l, x.c.y, x.c.w, slack⟩ x.c with _ | _
    ·exact narrows_3n v f x less needle slack A c y hyl w hE hF hY hv hs' hc hk hn
    ·by_cases he : (Dd.allowsF f ⟨x.k, x.l, x.o, x.a, x.b, x.s, x.e, ⟨x.c.b, needle, x.c.l, x.c.y, x.c.w, slack⟩⟩ y).2 = 0
     ·exact narrows_3o v f x less needle slack A c y hyl w hE hF hY hv hs' hc hk hn he
     ·exact narrows_3e v f x less needle slack A c y hyl w hE hF hY hv hs' hc hk hn he
   ·by_cases h0 : less < 0
    ·exact narrows_0l v f x less needle slack A c y hyl w hE hF hY hv hs' hc hk h0
    by_cases h1 : x.e < less
    ·exact narrows_0h v f x less needle slack A c y hyl w hE hF hY hv hs' hc hk h0 h1
    ·by_cases he : (Dd.allowsF f ⟨x.k, x.l, x.o, x.a, x.b, x.s, less, x.c⟩ y).2 = 0
     ·exact narrows_0o v f x less needle slack A c y hyl w hE hF hY hv hs' hc hk h0 h1 he
     ·exact narrows_0e v f x less needle slack A c y hyl w hE hF hY hv hs' hc hk h0 h1 he
  ·exact narrows_bad v f x less needle slack A c y hyl w hE hF hY hv hs' hc
 ·exact narrows_vast v f x less needle slack A c y hyl w hE hF hY hv

end Go.Proofs.YtcbeefbefapicaaGreatDoor
