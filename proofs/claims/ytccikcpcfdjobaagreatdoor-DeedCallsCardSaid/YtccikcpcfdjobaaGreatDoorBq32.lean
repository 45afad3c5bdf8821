/-
  What the claims of layer deed need of the texts DBo, DAl, DCon.
-/
import Derived.Test.YtccikcpcfdjobaaGreatDoorBq30
import Derived.Test.YtccikcpcfdjobaaGreatDoorBq17
import Derived.Test.YtccikcpcfdjobaaGreatDoorBq11
import Derived.Test.YtccikcpcfdjobaaGreatDoorBz
set_option linter.unusedVariables false
set_option linter.unusedSimpArgs false
set_option maxHeartbeats 8000000
set_option maxRecDepth 100000
namespace Go.Proofs.YtccikcpcfdjobaaGreatDoor
section
open Go.RowKit
theorem bounds_made (v : Fv) (f : Dd.Fd) (x : Dd.Ca) (r : Int) (w : World) (hF : FRd w w.heap.size v f) (hS : Sn w) :
  Calls Tryz.prog 57 #[fval v f, caval x, .int .i64 r] w fun e w' => e = .returned (.func (.func 108) #[] #[.pointer (some ⟨w.heap.size, 0, none⟩), .pointer (some ⟨w.heap.size + 1, 0, none⟩), .pointer (some ⟨w.heap.size + 1 + 1, 0, none⟩)]) ∧
   Yc w.heap.size w.heap.size (w.heap.size + 1) (w.heap.size + 1 + 1) v f x r w' ∧ Below w.heap.size w w' ∧ w.heap.size + 1 + 1 + 1 ≤ w'.heap.size :=
 (bounds_func v f x r w hF hS).mono fun e w' ⟨he, hy⟩ => ⟨he, ⟨hy.ck.fs.k, hy.ck.kC, hy.kR, hy.ck.fs.r, hy.ck.sn⟩, hy.ck.fs.b, hy.kR.lt⟩
theorem dBounds_any (v : Fv) (f : Dd.Fd) (x : Dd.Ca) (r : Int) (w : World) (hF : FRd w w.heap.size v f) (hS : Sn w) :
  Calls Tryz.prog 24 #[fval v f, caval x, .int .i64 r] w fun ee w' => ∃ A c, ee = .returned (.tuple #[.slice A (Dd.boundsF f x r).1.length c, .int .i64 (Dd.boundsF f x r).2]) ∧ Rd w' w'.heap.size 4 A (Dd.boundsF f x r).1.length (bcells (Dd.boundsF f x r).1) ∧ (Dd.boundsF f x r).1.length ≤ c ∧ Below w.heap.size w w' := by
 have hd : Dd.boundsF f x r = if Dd.callE f x ≠ 0 then ([], Dd.callE f x) else if 0 ≤ r ∧ r ≤ 1000000 then (Dd.bnds f x r, 0) else ([], 1) := rfl
 have S0 := jQ (Ck.new (x := x) hF hS)
 have T0 := jQ (fun V (h : Ck w v f x V) => Ck.tree h)
 have CC := jQ (fun W (h : Ck w v f x W) => dCheckCall_any v f x W h.fs.rd h.sn)
 have BF := jQ (fun W (h : Ck w v f x W) => bounds_made v f x r W h.fs.rd h.sn)
 have BT := dbetween_any 0 r 1000000
 simp only [fval_def, caval_def] at CC BF S0 ⊢
 obtain ⟨E, hE⟩ : ∃ E, Dd.callE f x = E := ⟨_, rfl⟩
 rw [hE] at CC hd
 by_cases h0 : E = 0
 ·subst h0
  rw [if_neg (by simp)] at hd
  by_cases hr : 0 ≤ r ∧ r ≤ 1000000
  ·rw [if_pos hr] at hd
   rw [decide_eq_true hr] at BT
   have HD := jQ hd
   have HBT := jQ BT
   have HE := jQ hE
   rw [HD.o]
   clear hd BT hE hF hS hr
   have P0 := S0.o
   obtain ⟨⟨⟨⟨f0, f1⟩, ⟨f2, f3⟩⟩, ⟨⟨c0, c1⟩, ⟨c2, c3⟩⟩⟩, ⟨⟨⟨c4, c5⟩, ⟨c6, c7⟩⟩, ⟨⟨c8, c9⟩, ⟨c10, ⟨c11, c12⟩⟩⟩⟩⟩ := T0.o _ P0
   clear P0
   go_enter Tryz.func24, Tryz.ntmps24
   go_wp2_with fail
   refine (CC.o _ S0.o).mono ?_
   rintro ee w1 ⟨rfl, hb1⟩
   have S1 := jQ (S0.o.next hb1)
   clear hb1 f0 f1 f2 f3 c0 c1 c2 c3 c4 c5 c6 c7 c8 c9 c10 c11 c12 S0
   obtain ⟨⟨⟨⟨f0, f1⟩, ⟨f2, f3⟩⟩, ⟨⟨c0, c1⟩, ⟨c2, c3⟩⟩⟩, ⟨⟨⟨c4, c5⟩, ⟨c6, c7⟩⟩, ⟨⟨c8, c9⟩, ⟨c10, ⟨c11, c12⟩⟩⟩⟩⟩ := T0.o _ S1.o
   go_wp2_with fail
   refine (HBT.o _).mono ?_
   rintro ee w' ⟨rfl, rfl⟩
   go_wp2_with fail
   refine (BF.o _ S1.o).mono ?_
   rintro ee w2 ⟨rfl, hy2, hb2, hz2⟩
   have S2 := jQ (S1.o.next hb2)
   have HY2 := jQ hy2
   clear hb2 hy2 f0 f1 f2 f3 c0 c1 c2 c3 c4 c5 c6 c7 c8 c9 c10 c11 c12
   have COL := jQ (collect_any w1.heap.size (w1.heap.size + 1) (w1.heap.size + 1 + 1) w1.heap.size v f x r HE.o w2 HY2.o (by omega) (Nat.lt_of_lt_of_le S1.o.sn.1 (Nat.le_refl _)))
   go_wp2_with fail
   refine COL.o.mono ?_
   rintro ee w3 ⟨A, c, rfl, hrd, hc, hb3⟩
   have HR := jQ hrd
   have HC := jQ hc
   have HB := jQ (S2.o.fs.b.trans (hb3.mono S2.o.fs.b.size))
   clear hrd hc hb3
   go_wp2_with fail
   go_ret2
   exact ⟨A, c, rfl, HR.o, HC.o, HB.o⟩
  ·rw [if_neg hr] at hd
   rw [decide_eq_false hr] at BT
   have HD := jQ hd
   have HBT := jQ BT
   rw [HD.o]
   clear hd BT hE hF hS hr
   have P0 := S0.o
   obtain ⟨⟨⟨⟨f0, f1⟩, ⟨f2, f3⟩⟩, ⟨⟨c0, c1⟩, ⟨c2, c3⟩⟩⟩, ⟨⟨⟨c4, c5⟩, ⟨c6, c7⟩⟩, ⟨⟨c8, c9⟩, ⟨c10, ⟨c11, c12⟩⟩⟩⟩⟩ := T0.o _ P0
   clear P0
   go_enter Tryz.func24, Tryz.ntmps24
   go_wp2_with fail
   refine (CC.o _ S0.o).mono ?_
   rintro ee w1 ⟨rfl, hb1⟩
   have S1 := jQ (S0.o.next hb1)
   clear hb1 f0 f1 f2 f3 c0 c1 c2 c3 c4 c5 c6 c7 c8 c9 c10 c11 c12 S0
   go_wp2_with fail
   refine (HBT.o _).mono ?_
   rintro ee w' ⟨rfl, rfl⟩
   go_wp2_with fail
   go_ret2
   exact ⟨none, 0, rfl, Rd.nil _ _ _ _, Nat.le_refl _, S1.o.fs.b⟩
 ·rw [if_pos h0] at hd
  have hne : (E != 0) = true := by simp [h0]
  have HD := jQ hd
  rw [HD.o]
  clear hd BT hE hF hS h0
  have P0 := S0.o
  obtain ⟨⟨⟨⟨f0, f1⟩, ⟨f2, f3⟩⟩, ⟨⟨c0, c1⟩, ⟨c2, c3⟩⟩⟩, ⟨⟨⟨c4, c5⟩, ⟨c6, c7⟩⟩, ⟨⟨c8, c9⟩, ⟨c10, ⟨c11, c12⟩⟩⟩⟩⟩ := T0.o _ P0
  clear P0
  go_enter Tryz.func24, Tryz.ntmps24
  go_wp2_with fail
  refine (CC.o _ S0.o).mono ?_
  rintro ee w1 ⟨rfl, hb1⟩
  have S1 := jQ (S0.o.next hb1)
  clear hb1 f0 f1 f2 f3 c0 c1 c2 c3 c4 c5 c6 c7 c8 c9 c10 c11 c12 S0
  go_wp2_with fail
  go_ret2
  exact ⟨none, 0, rfl, Rd.nil _ _ _ _, Nat.le_refl _, S1.o.fs.b⟩
end

section
open Go.RowKit Go.Shelf
attribute [local go_sem] Oper.semAt_some
structure Aw (w : World) (v : Fv) (f : Dd.Fd) (x : Dd.Ca) (A : Option Addr) (c : Nat) (y : List Int) (W : World) : Prop where
 ck : Ck w v f x W
 kY : Bk W (w.heap.size + 1 + 1) 28 #[.slice A y.length c]
 kB : Bk W (w.heap.size + 1 + 1 + 1) 4 #[.bool false]
 kE : Bk W (w.heap.size + 1 + 1 + 1 + 1) 31 #[.int .i64 0]
 rY : Rd W w.heap.size 1 A y.length (icells y)
section
variable {w W W' : World} {v : Fv} {f : Dd.Fd} {x : Dd.Ca} {A : Option Addr} {c : Nat} {y : List Int}
end
end

section
open Go.RowKit Go.Shelf
theorem dConc_err (v : Fv) (f : Dd.Fd) (x : Dd.Ca) (w : World) (hF : FRd w w.heap.size v f) (hS : Sn w) (h0 : Dd.callE f x ≠ 0) :
  Calls Tryz.prog 26 #[fval v f, caval x] w fun ee w' => ee = .returned (.tuple #[.slice none 0 0, .int .i64 (Dd.callE f x)]) ∧ Below w.heap.size w w' := by
 have S0 := jQ (Ck.new (x := x) hF hS)
 have T0 := jQ (fun V (h : Ck w v f x V) => Ck.tree h)
 have CC := jQ (fun W (h : Ck w v f x W) => dCheckCall_any v f x W h.fs.rd h.sn)
 simp only [fval_def, caval_def] at CC S0 ⊢
 obtain ⟨E, hE⟩ : ∃ E, Dd.callE f x = E := ⟨_, rfl⟩
 rw [hE] at CC h0 ⊢
 have hne : (E != 0) = true := by simp [h0]
 clear hF hS h0 hE
 obtain ⟨⟨⟨⟨f0, f1⟩, ⟨f2, f3⟩⟩, ⟨⟨c0, c1⟩, ⟨c2, c3⟩⟩⟩, ⟨⟨⟨c4, c5⟩, ⟨c6, c7⟩⟩, ⟨⟨c8, c9⟩, ⟨c10, ⟨c11, c12⟩⟩⟩⟩⟩ := T0.o _ S0.o
 go_enter Tryz.func26, Tryz.ntmps26
 go_wp2_with fail
 refine (CC.o _ S0.o).mono ?_
 rintro ee w1 ⟨rfl, hb1⟩
 have S1 := jQ (S0.o.next hb1)
 clear hb1 f0 f1 f2 f3 c0 c1 c2 c3 c4 c5 c6 c7 c8 c9 c10 c11 c12 S0
 go_wp2_with fail
 go_ret2
 exact ⟨rfl, S1.o.fs.b⟩
attribute [local go_sem] Oper.semAt_some
theorem dConc_ok (v : Fv) (f : Dd.Fd) (x : Dd.Ca) (w : World) (hF : FRd w w.heap.size v f) (hS : Sn w) (h0 : Dd.callE f x = 0) :
  Calls Tryz.prog 26 #[fval v f, caval x] w fun ee w' => ∃ A c, ee = .returned (.tuple #[.slice A ((Dd.ends (Dd.bnds f x 0)).mergeSort fun x y => decide (x ≤ y)).length c, .int .i64 0]) ∧ Rd w' w'.heap.size 1 A ((Dd.ends (Dd.bnds f x 0)).mergeSort fun x y => decide (x ≤ y)).length (icells ((Dd.ends (Dd.bnds f x 0)).mergeSort fun x y => decide (x ≤ y))) ∧ Below w.heap.size w w' := by
 obtain ⟨i0, hi0, hy0, hy1, hy2⟩ := info_parts infoI3
 have S0 := jQ (Ck.new (x := x) hF hS)
 have T0 := jQ (fun V (h : Ck w v f x V) => Ck.tree h)
 have CC := jQ (fun W (h : Ck w v f x W) => dCheckCall_any v f x W h.fs.rd h.sn)
 have BF := jQ (fun W (h : Ck w v f x W) => bounds_made v f x 0 W h.fs.rd h.sn)
 have hlen := Dd.bnds_len f x 0
 have hgl := Dd.gaps_len h0
 have hl1 := hF.l1
 have HNE := jQ (Dd.ends_ne (Dd.callE_zero h0).2)
 have hg0 := hS.1
 simp only [fval_def, caval_def, h0] at CC BF S0 ⊢
 have HE := jQ h0
 have HLEN := jQ (show (Dd.bnds f x 0).length ≤ 3000000 by omega)
 clear hF hS h0 hlen hgl hl1
 obtain ⟨⟨⟨⟨f0, f1⟩, ⟨f2, f3⟩⟩, ⟨⟨c0, c1⟩, ⟨c2, c3⟩⟩⟩, ⟨⟨⟨c4, c5⟩, ⟨c6, c7⟩⟩, ⟨⟨c8, c9⟩, ⟨c10, ⟨c11, c12⟩⟩⟩⟩⟩ := T0.o _ S0.o
 refine (callsIn_wide (n := 3)).1 ?_
 refine callsIn_of_wp_marks Tryz.func26 rfl trivial ?_ rfl
 simp only [Tryz.ntmps26, List.size_toArray, List.length_cons, List.length_nil, Nat.reduceAdd, Nat.reduceSub, Array.replicate_succ, Array.replicate_zero, List.push_toArray, List.append_toArray, List.nil_append, List.cons_append]
 gi_wp2_with (fail)
 refine ⟨trivial, ?_⟩
 refine (callsIn_wide.2 (CC.o _ S0.o)).mono ?_
 rintro ee w1 ⟨rfl, hb1⟩
 have S1 := jQ (S0.o.next hb1)
 have hbl := (Below.refl w1.heap.size w1).alloc (Nat.le_refl _) (.cells #[.slice none 0 0] 28)
 have S2 := jQ (show Cw w v f x w1.heap.size (w1.alloc (.cells #[.slice none 0 0] 28)) from ⟨S1.o.next hbl, Bk.new _ _ _, S1.o.kC.lt⟩)
 have e2 : (w1.alloc (.cells #[.slice none 0 0] 28)).heap.size = w1.heap.size + 1 := World.size_alloc _ _
 obtain ⟨w2, hw2⟩ : ∃ w2, w1.alloc (.cells #[.slice none 0 0] 28) = w2 := ⟨_, rfl⟩
 rw [hw2] at S2 e2
 have HW2 := jQ hw2
 have e2a : w1.heap.size + 1 ≤ w2.heap.size := by omega
 have e2b : w2.heap.size ≤ w1.heap.size + 1 := by omega
 clear e2
 have hwg : w.heap.size ≤ w1.heap.size := S1.o.fs.b.size
 have hw1C := S1.o.kC.lt
 have hw1F := S1.o.fs.k.lt
 clear hb1 hbl hw2 f0 f1 f2 f3 c0 c1 c2 c3 c4 c5 c6 c7 c8 c9 c10 c11 c12 S0
 obtain ⟨⟨⟨⟨f0, f1⟩, ⟨f2, f3⟩⟩, ⟨⟨c0, c1⟩, ⟨c2, c3⟩⟩⟩, ⟨⟨⟨c4, c5⟩, ⟨c6, c7⟩⟩, ⟨⟨c8, c9⟩, ⟨c10, ⟨c11, c12⟩⟩⟩⟩⟩ := T0.o _ S1.o
 gi_wp2_with (fail)
 refine ⟨trivial, ?_⟩
 rw [HW2.o]
 refine (callsIn_wide.2 (BF.o _ S2.o.ck)).mono ?_
 rintro ee w3 ⟨rfl, hy3, hb3, hz3⟩
 have S3 := jQ (S2.o.next hb3)
 have hst := bounds_stops 2 (by omega) w2.heap.size (w2.heap.size + 1) (w2.heap.size + 1 + 1) w3.heap.size w.heap.size (fun j => j = w1.heap.size) v f x 0 HE.o (fun j hj => ⟨by omega, by omega⟩) (by omega) (by omega) (by omega) (by omega) hg0 (by omega) (by omega) (by omega) w3 (Nat.le_refl _) ⟨hy3.kF, hy3.kC, hy3.kR, S3.o.ck.fs.r, hy3.sn⟩
 have HST := jQ hst
 clear hb3 hy3 hst f0 f1 f2 f3 c0 c1 c2 c3 c4 c5 c6 c7 c8 c9 c10 c11 c12 S1
 gi_wp2_with (fail)
 refine wpIn_rangeFunc_ownH (F := Fence.wide) (n := 3) rfl (by omega) (gf := 108) (lb := #[.pointer (some ⟨w2.heap.size, 0, none⟩), .pointer (some ⟨w2.heap.size + 1, 0, none⟩), .pointer (some ⟨w2.heap.size + 1 + 1, 0, none⟩)]) rfl trivial (enters_of Tryz.func108 (by kernel_rfl) rfl)
  HST.o kc_t (kc_b (Nat.le_refl _)) (Below.refl _ _) (fun _ => rfl)
  (fun pre W' => CoI w w1.heap.size w3.heap.size (pre.map (·.1)) W')
  (fun _ _ _ => False)
  (coI_own (by omega))
  (fun _ _ _ _ _ h _ _ => h)
  ⟨.slice none 0 0, S3.o.kL, World.ownsRow_nil _ _ _ _, S3.o.ck.fs.b, Nat.le_refl _⟩
  (fun b a' W' => ∃ Bx, w3.heap.size ≤ Bx ∧ Bk W' Bx 78 #[.int .i64 b.1.f, .int .i64 b.1.t, .int .i64 b.1.m, .int .i64 b.1.r] ∧ (∃ V, Bk W' w1.heap.size 28 #[V] ∧ V.ownBlock ≠ some Bx) ∧ a' = { tmps := (Value.agg #[.slice v.a1 f.st.length v.c1, .slice v.a2 f.li.length v.c2, .slice v.a3 f.pa.length v.c3, .slice v.a4 f.va.length v.c4] :: Value.agg #[.int .u8 x.k, .int .i64 x.l, .int .i64 x.o, .int .i64 x.a, .int .i64 x.b, .int .i64 x.s, .int .i64 x.e, .int .i64 x.c.b, .int .i64 x.c.n, .int .i64 x.c.l, .int .i64 x.c.y, .int .i64 x.c.w, .int .i64 x.c.s] :: Value.pointer (some ⟨w.heap.size, 0, none⟩) :: Value.pointer (some ⟨w.heap.size + 1, 0, none⟩) :: Value.slice none 0 0 :: Value.int .i64 0 :: Value.int .i64 0 :: Value.pointer (some ⟨w1.heap.size, 0, none⟩) :: Value.pointer (some ⟨Bx, 0, none⟩) :: Value.agg #[.slice v.a1 f.st.length v.c1, .slice v.a2 f.li.length v.c2, .slice v.a3 f.pa.length v.c3, .slice v.a4 f.va.length v.c4] :: Value.agg #[.int .u8 x.k, .int .i64 x.l, .int .i64 x.o, .int .i64 x.a, .int .i64 x.b, .int .i64 x.s, .int .i64 x.e, .int .i64 x.c.b, .int .i64 x.c.n, .int .i64 x.c.l, .int .i64 x.c.y, .int .i64 x.c.w, .int .i64 x.c.s] :: Value.int .i64 0 :: Value.int .i64 0 :: Value.bool false :: undef :: Value.agg #[.slice v.a1 f.st.length v.c1, .slice v.a2 f.li.length v.c2, .slice v.a3 f.pa.length v.c3, .slice v.a4 f.va.length v.c4] :: Value.agg #[.int .u8 x.k, .int .i64 x.l, .int .i64 x.o, .int .i64 x.a, .int .i64 x.b, .int .i64 x.s, .int .i64 x.e, .int .i64 x.c.b, .int .i64 x.c.n, .int .i64 x.c.l, .int .i64 x.c.y, .int .i64 x.c.w, .int .i64 x.c.s] :: Value.func (.func 108) #[] #[.pointer (some ⟨w2.heap.size, 0, none⟩), .pointer (some ⟨w2.heap.size + 1, 0, none⟩), .pointer (some ⟨w2.heap.size + 1 + 1, 0, none⟩)] :: Value.agg #[.int .i64 b.1.f, .int .i64 b.1.t, .int .i64 b.1.m, .int .i64 b.1.r] :: undef :: undef :: undef :: undef :: undef :: undef :: undef :: undef :: undef :: undef :: undef :: []).toArray, defers := [] })
  (fun b a' _ X Y row hs hg hr => by obtain ⟨Bx, h1, h2, ⟨V, h3, h4⟩, h5⟩ := hs; exact ⟨Bx, h1, bk_own h2 hg (fun r e => (hr r e).2), ⟨V, bk_own h3 hg (fun r e => (hr r e).2), h4⟩, h5⟩)
  ?assign ?body ?done ?stop
 case assign =>
  rintro l pre b W' KK i1 hKK
  rw [show ibv b = #[.agg #[.int .i64 b.1.f, .int .i64 b.1.t, .int .i64 b.1.m, .int .i64 b.1.r]] from rfl]
  have I1 := jQ i1
  have HKK := jQ hKK
  clear i1 hKK
  gi_wp2_with (fail)
  obtain ⟨V, q2, q3, q4, q5⟩ := I1.o
  have hl := q2.lt
  exact HKK.o _ _ ((KeepsOthers.alloc _ _).from _) ((Kc.refl _ _ _).alloc q5 _) ⟨V, q2.alloc _, q3.alloc _, q4.alloc q4.size _, by rw [World.size_alloc]; omega⟩ ⟨W'.heap.size, q5, Bk.new W' _ _, ⟨V, q2.alloc _, fun e => by have := (q3.lt _ e).2; omega⟩, rfl⟩
 case body =>
  rintro l' pre b a' W' hl' ⟨rr, hr⟩ ⟨V, i2, i3, i4, i5⟩ ⟨Bx, hBx, bX, ⟨V', j2, j3⟩, rfl⟩ hltp
  obtain ⟨⟨bf, bt, bm, br⟩, hb⟩ := b
  dsimp only at bX
  have x0 := (bX.cell 0).trans rfl
  have x1 := (bX.cell 1).trans rfl
  have x2 := (bX.cell 2).trans rfl
  have x3 := (bX.cell 3).trans rfl
  have cw := (i2.cell 0).trans rfl
  have lX := bX.lt
  have l2 := i2.lt
  have hmap : (pre ++ [(⟨⟨bf, bt, bm, br⟩, hb⟩ : Dd.Ib f x 0)]).map (·.1) = pre.map (·.1) ++ [⟨bf, bt, bm, br⟩] := by simp
  have HM := jQ hmap
  have hpl : (pre.map (·.1)).length ≤ 3000000 := by
   rw [List.length_map]
   have := HLEN.o
   omega
  have hel := Dd.ends_len (pre.map (·.1))
  obtain ⟨n, hn⟩ : ∃ n, (Dd.ends (pre.map (·.1))).length = n := ⟨_, rfl⟩
  by_cases ht : bt = 0
  ·have HSK := jQ (show Dd.ends (pre.map (·.1) ++ [⟨bf, bt, bm, br⟩]) = Dd.ends (pre.map (·.1)) by rw [Dd.ends_snoc, if_pos ht, List.append_nil])
   have I := jQ (And.intro i2 (And.intro i3 (And.intro i4 i5)))
   subst ht
   clear i2 i3 i4 i5 bX j2 j3 hmap hn hel hpl
   gi_wp2_with (fail)
   obtain ⟨i2, i3, i4, i5⟩ := I.o
   refine ⟨⟨Nat.le_refl _, fun _ _ _ h _ => h⟩, Kc.refl _ _ _, ?_⟩
   show CoI w w1.heap.size w3.heap.size (List.map (·.1) (pre ++ [_])) _
   rw [HM.o]
   exact ⟨V, i2, by rw [HSK.o]; exact i3, i4, i5⟩
  ·have dt : (bt != 0) = true := by simp [ht]
   have hpn := fun w4 v' h1 h2 => coI_step (b := ⟨bf, bt, bm, br⟩) (pre := pre.map (·.1)) ht (show w1.heap.size < w3.heap.size by omega) hwg i5 i2 i3 i4 (w1 := w4) (V' := v') h1 h2
   have hOn := i3.alloc (.cells #[.int .i64 bt] 3)
   rw [hn] at hpn hOn hel
   have hb47 : n + 1 ≤ 10000000 := by omega
   have hM3 : w3.heap.size ≤ W'.heap.size := i5
   have HPN := jQ hpn
   have HON := jQ hOn
   have HN := jQ hn
   clear i2 i3 i4 i5 bX j2 j3 hpn hmap hOn hltp hel hpl hn ht
   gi_wp2_with (first
    | (refine wpListIn_append_own_at _ rfl _ _ 28 rfl w3.heap.size 3 i0 _ 1 8 Tryz.underlying28 hi0 hy0 hy1 hy2 rfl (by omega) V _ _ rfl HON.o ⟨W'.heap.size, 0, none⟩ 1 1 [.int .i64 bt] rfl rfl (World.news_of_block (cs := #[.int .i64 bt]) (t := 3) (fr := (0, 0)) (World.alloc_heap_new W' _)) (by simp [Value.oneCell']) (by unfold maxLen; omega) (by omega) (by rw [World.size_alloc]; omega) ?_; intro v' w4 hown hgrow hnil hat; obtain ⟨A3, c3, hv3, _, _⟩ := ownB_rd hown (by rw [List.length_append, icells_length, HN.o, List.length_singleton]; omega); subst hv3; obtain ⟨q1, q2, q3, QQ⟩ := HPN.o w4 _ hown hgrow))
   obtain ⟨k1, k2, k3⟩ := QQ.o
   refine ⟨k1, k2, ?_⟩
   show CoI w w1.heap.size w3.heap.size (List.map (·.1) (pre ++ [_])) _
   rw [HM.o]
   exact k3
 case done =>
  rintro D ys W' hD rfl ⟨V, i2, i3, i4, i5⟩ hKD
  rw [List.attach_map_subtype_val] at i3
  have hel := Dd.ends_len (Dd.bnds f x 0)
  have hbl := Dd.gaps_len HE.o
  have hst := (Dd.field_facts (Dd.callE_zero HE.o).1).2.2.1
  have hll := Dd.bnds_len f x 0
  obtain ⟨L, hL⟩ : ∃ L, Dd.ends (Dd.bnds f x 0) = L := ⟨_, rfl⟩
  have hne : L ≠ [] := by rw [← hL]; exact HNE.o
  rw [hL] at i3 hel
  have HL := jQ hL
  obtain ⟨A3, c3, rfl, -, -⟩ := ownB_rd i3 (by rw [icells_length, Nat.mul_one])
  have SO := jQ (sort_own i3 rfl hne (by omega))
  have hn2 : some w1.heap.size ≠ (Value.slice A3 L.length c3).ownBlock := fun e => by have := (i3.lt _ e.symm).1; omega
  have hnD : some D ≠ (Value.slice A3 L.length c3).ownBlock := fun e => by
   obtain ⟨cs, hc⟩ := own_cellsB i3 e.symm
   rw [hKD] at hc
   cases hc
  have I := jQ (And.intro i2 (And.intro i3 (And.intro i4 i5)))
  have HKD := jQ hKD
  have HN2 := jQ hn2
  have HND := jQ hnD
  have cw := (i2.cell 0).trans rfl
  have l2 := i2.lt
  clear i2 i3 i4 i5 hKD hn2 hnD hne hel hbl hst hll hL
  gi_wp2_with (fail)
  refine ⟨trivial, ?_⟩
  refine (callsIn_wide.2 SO.o).mono ?_
  rintro ee w5 ⟨rfl, hrd5, hg5⟩
  obtain ⟨i2, i3, i4, i5⟩ := I.o
  have k5 := i2.grown hg5 HN2.o
  have HKD5 := jQ ((hg5.block D (Array.getElem?_eq_some_iff.1 HKD.o).1 HND.o).trans HKD.o)
  have HB5 := jQ (i4.grown hg5 i4.size (fun k hk => by have := (i3.lt k hk).1; omega))
  have HRD5 := jQ hrd5
  clear cw l2
  have cw := (k5.cell 0).trans rfl
  have l2 := k5.lt
  clear i2 i3 i4 i5 hrd5 hg5 k5
  gi_wp2_with (fail)
  refine leaves_one HKD5.o (fun w' hw => ?_)
  refine ⟨_, results_tmp2 rfl _ _ _, A3, c3, ?_, ?_, ?_⟩
  ·rw [HL.o, List.length_mergeSort]
   rfl
  ·rw [HL.o, List.length_mergeSort]
   exact (hw.rdD HKD5.o HRD5.o (Nat.le_refl _)).more hw.size
  ·exact HB5.o.trans (hw.below HB5.o.size (fun j hj e => by omega))
 case stop =>
  rintro D c pre W' hD hpre h hK
  exact h.elim
theorem dConc_any (v : Fv) (f : Dd.Fd) (x : Dd.Ca) (w : World) (hF : FRd w w.heap.size v f) (hS : Sn w) :
  Calls Tryz.prog 26 #[fval v f, caval x] w fun ee w' => ∃ A c, ee = .returned (.tuple #[.slice A (Dd.concF f x).1.length c, .int .i64 (Dd.concF f x).2]) ∧ Rd w' w'.heap.size 1 A (Dd.concF f x).1.length (icells (Dd.concF f x).1) ∧ Below w.heap.size w w' := by
 have hd : Dd.concF f x = if Dd.callE f x ≠ 0 then ([], Dd.callE f x) else (Dd.concA (Dd.bnds f x 0) (Dd.ptsN f - 1) 1, 0) := rfl
 rw [hd]
 by_cases h0 : Dd.callE f x = 0
 ·rw [if_neg (fun h => h h0), ← Dd.conc_eq (Dd.callE_zero h0).2]
  exact dConc_ok v f x w hF hS h0
 ·rw [if_pos h0]
  exact (dConc_err v f x w hF hS h0).mono fun e w' ⟨he, hb⟩ => ⟨none, 0, he, Rd.nil _ _ _ _, hb⟩
end
end Go.Proofs.YtccikcpcfdjobaaGreatDoor
