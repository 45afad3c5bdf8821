/-
  DeedMoves: the law's walk.
-/
import Derived.Test.YtcbeefbefapicaaGreatDoorBn42
import Derived.Test.YtcbeefbefapicaaGreatDoorBn16
import Derived.Test.YtcbeefbefapicaaGreatDoorBn17
import Derived.Test.YtcbeefbefapicaaGreatDoorBn38
set_option linter.unusedVariables false
set_option linter.unusedSimpArgs false
namespace Go.Proofs.YtcbeefbefapicaaGreatDoor
open Go.RowKit
set_option maxRecDepth 100000

theorem Dd.mv_take {f : Dd.Fd} {dx : Int} {k : Nat} (hk : k < f.st.length) : scells ((Dd.mv f dx).st.take (k + 1)) = scells ((Dd.mv f dx).st.take k) ++ [.string ⟨f.st[k].1.toArray⟩, .int .i64 (f.st[k].2 + dx)] := by
 have h : k < (Dd.mv f dx).st.length := by rw [Dd.mv_len]; exact hk
 rw [List.take_succ_eq_append_getElem h]
 unfold scells
 rw [List.flatMap_append]
 congr 1
 simp [Dd.mv, scell, sv]
theorem scells_len (l : List (Cs.Bs × Int)) : (scells l).length = l.length * 2 := flatl_len scell_len l
theorem mv_rd {W : World} {v : Fv} {f : Dd.Fd} {dx : Int} {A : Option Addr} {m c B : Nat} (hF : FRd W W.heap.size v f) (h : W.ownsRow B 62 2 (.slice A m c) f.st.length (scells (Dd.mv f dx).st)) :
  m = f.st.length ∧ FRd W W.heap.size ⟨A, c, v.a2, v.c2, v.a3, v.c3, v.a4, v.c4⟩ (Dd.mv f dx) := by
 obtain ⟨h1, h2⟩ := own_capN h
 have hl := Dd.mv_len f dx
 obtain ⟨A', c', he, hrd, -⟩ := ownB_rd h (by rw [scells_len, hl])
 simp only [Value.slice.injEq] at he
 obtain ⟨rfl, -, rfl⟩ := he
 refine ⟨h1, ⟨by rw [hl]; exact hrd, hF.li, hF.pa, hF.va, by rw [hl]; exact h2, hF.k2, hF.k3, by rw [hl]; exact hF.l1, hF.l2, hF.l3, hF.l4, fun s hs => ?_, hF.n2, hF.n3⟩⟩
 obtain ⟨q, hq, rfl⟩ := List.mem_map.1 (show s ∈ f.st.map fun s => (s.1, s.2 + dx) from hs)
 exact hF.n1 q hq

set_option maxHeartbeats 8000000 in
theorem moves_vast (v : Fv) (f : Dd.Fd) (x : Dd.Ca) (dx : Int) (hdx : -9223372036854775808 ≤ dx ∧ dx ≤ 9223372036854775807) (w : World) (hE : Env w) (hF : FRw w w.heap.size v f) (hv : Dd.vastF f = true) :
  Calls Tryz.prog 7 #[fval v f, caval x, .int .i64 dx] w fun e w' => e = .returned (.bool true) ∧ Below w.heap.size w w' := by
 have va := fun W (h : Lc w v f x none [] W) => vast_any v f W h.raw
 rw [hv] at va
 have SP := Lib.hid (fun W (h : Env W) => spoken_any W h)
 have S0 := Lib.hid (Lc.new (x := x) (A := none) (y := []) hE hF (Rd.nil _ _ _ _))
 simp only [fval_def, caval_def] at va S0 ⊢
 have VA := Lib.hid va
 clear hF hv hE va hdx
 go_enter Tryz.func7, Tryz.ntmps7
 obtain ⟨⟨⟨⟨⟨f0, f1⟩, f2, f3⟩, ⟨c0, c1⟩, c2, c3⟩, ⟨⟨c4, c5⟩, c6, c7⟩, ⟨c8, c9⟩, c10, c11, c12⟩, fl⟩ := S0.out.tree
 go_wp2_with fail
 refine (VA.out _ S0.out).mono ?_
 rintro e w1 ⟨rfl, hb⟩
 have S1 := Lib.hid (S0.out.next hb)
 clear hb f0 f1 f2 f3 c0 c1 c2 c3 c4 c5 c6 c7 c8 c9 c10 c11 c12 fl S0
 obtain ⟨⟨⟨⟨⟨f0, f1⟩, f2, f3⟩, ⟨c0, c1⟩, c2, c3⟩, ⟨⟨c4, c5⟩, c6, c7⟩, ⟨c8, c9⟩, c10, c11, c12⟩, fl⟩ := S1.out.tree
 go_wp2_with fail
 refine (SP.out _ S1.out.e).mono ?_
 rintro e w2 ⟨rfl, hb⟩
 have S2 := Lib.hid (S1.out.next hb)
 clear hb f0 f1 f2 f3 c0 c1 c2 c3 c4 c5 c6 c7 c8 c9 c10 c11 c12 fl S1
 obtain ⟨⟨⟨⟨⟨f0, f1⟩, f2, f3⟩, ⟨c0, c1⟩, c2, c3⟩, ⟨⟨c4, c5⟩, c6, c7⟩, ⟨c8, c9⟩, c10, c11, c12⟩, fl⟩ := S2.out.tree
 go_wp2_with fail
 go_ret
 exact ⟨rfl, S2.out.b⟩

set_option maxHeartbeats 8000000 in
theorem moves_bad (v : Fv) (f : Dd.Fd) (x : Dd.Ca) (dx : Int) (hdx : -9223372036854775808 ≤ dx ∧ dx ≤ 9223372036854775807) (w : World) (hE : Env w) (hF : FRw w w.heap.size v f) (hv : Dd.vastF f = false) (h0 : ¬ Dd.fieldE f = 0) :
  Calls Tryz.prog 7 #[fval v f, caval x, .int .i64 dx] w fun e w' => e = .returned (.bool true) ∧ Below w.heap.size w w' := by
 have va := fun W (h : Lc w v f x none [] W) => vast_any v f W h.raw
 rw [hv] at va
 have cf := fun W (h : Lc w v f x none [] W) => checkField_any v f W (h.rd hv)
 obtain ⟨E, hEE⟩ : ∃ E, Dd.fieldE f = E := ⟨_, rfl⟩
 rw [hEE] at cf h0
 have e1 : (E != 0) = true := by simp [h0]
 have SP := Lib.hid (fun W (h : Env W) => spoken_any W h)
 have S0 := Lib.hid (Lc.new (x := x) (A := none) (y := []) hE hF (Rd.nil _ _ _ _))
 simp only [fval_def, caval_def] at va cf S0 ⊢
 have VA := Lib.hid va
 have CF := Lib.hid cf
 clear hF hv hE va hdx cf h0 hEE
 go_enter Tryz.func7, Tryz.ntmps7
 obtain ⟨⟨⟨⟨⟨f0, f1⟩, f2, f3⟩, ⟨c0, c1⟩, c2, c3⟩, ⟨⟨c4, c5⟩, c6, c7⟩, ⟨c8, c9⟩, c10, c11, c12⟩, fl⟩ := S0.out.tree
 go_wp2_with fail
 refine (VA.out _ S0.out).mono ?_
 rintro e w1 ⟨rfl, hb⟩
 have S1 := Lib.hid (S0.out.next hb)
 clear hb f0 f1 f2 f3 c0 c1 c2 c3 c4 c5 c6 c7 c8 c9 c10 c11 c12 fl S0
 obtain ⟨⟨⟨⟨⟨f0, f1⟩, f2, f3⟩, ⟨c0, c1⟩, c2, c3⟩, ⟨⟨c4, c5⟩, c6, c7⟩, ⟨c8, c9⟩, c10, c11, c12⟩, fl⟩ := S1.out.tree
 go_wp2_with fail
 refine (CF.out _ S1.out).mono ?_
 rintro e w2 ⟨rfl, hb⟩
 have S2 := Lib.hid (S1.out.next hb)
 clear hb f0 f1 f2 f3 c0 c1 c2 c3 c4 c5 c6 c7 c8 c9 c10 c11 c12 fl S1
 obtain ⟨⟨⟨⟨⟨f0, f1⟩, f2, f3⟩, ⟨c0, c1⟩, c2, c3⟩, ⟨⟨c4, c5⟩, c6, c7⟩, ⟨c8, c9⟩, c10, c11, c12⟩, fl⟩ := S2.out.tree
 go_wp2_with fail
 refine (SP.out _ S2.out.e).mono ?_
 rintro e w3 ⟨rfl, hb⟩
 have S3 := Lib.hid (S2.out.next hb)
 clear hb f0 f1 f2 f3 c0 c1 c2 c3 c4 c5 c6 c7 c8 c9 c10 c11 c12 fl S2
 obtain ⟨⟨⟨⟨⟨f0, f1⟩, f2, f3⟩, ⟨c0, c1⟩, c2, c3⟩, ⟨⟨c4, c5⟩, c6, c7⟩, ⟨c8, c9⟩, c10, c11, c12⟩, fl⟩ := S3.out.tree
 go_wp2_with fail
 go_ret
 exact ⟨rfl, S3.out.b⟩

set_option maxHeartbeats 8000000 in
theorem moves_low (v : Fv) (f : Dd.Fd) (x : Dd.Ca) (dx : Int) (hdx : -9223372036854775808 ≤ dx ∧ dx ≤ 9223372036854775807) (w : World) (hE : Env w) (hF : FRw w w.heap.size v f) (hv : Dd.vastF f = false) (h0 : Dd.fieldE f = 0) (hl : dx < -100000) :
  Calls Tryz.prog 7 #[fval v f, caval x, .int .i64 dx] w fun e w' => e = .returned (.bool true) ∧ Below w.heap.size w w' := by
 have va := fun W (h : Lc w v f x none [] W) => vast_any v f W h.raw
 rw [hv] at va
 have cf := fun W (h : Lc w v f x none [] W) => checkField_any v f W (h.rd hv)
 rw [h0] at cf
 have d1 : decide (dx < -100000) = true := decide_eq_true hl
 have SP := Lib.hid (fun W (h : Env W) => spoken_any W h)
 have S0 := Lib.hid (Lc.new (x := x) (A := none) (y := []) hE hF (Rd.nil _ _ _ _))
 simp only [fval_def, caval_def] at va cf S0 ⊢
 have VA := Lib.hid va
 have CF := Lib.hid cf
 clear hF hv hE va hdx cf h0 hl
 go_enter Tryz.func7, Tryz.ntmps7
 obtain ⟨⟨⟨⟨⟨f0, f1⟩, f2, f3⟩, ⟨c0, c1⟩, c2, c3⟩, ⟨⟨c4, c5⟩, c6, c7⟩, ⟨c8, c9⟩, c10, c11, c12⟩, fl⟩ := S0.out.tree
 go_wp2_with fail
 refine (VA.out _ S0.out).mono ?_
 rintro e w1 ⟨rfl, hb⟩
 have S1 := Lib.hid (S0.out.next hb)
 clear hb f0 f1 f2 f3 c0 c1 c2 c3 c4 c5 c6 c7 c8 c9 c10 c11 c12 fl S0
 obtain ⟨⟨⟨⟨⟨f0, f1⟩, f2, f3⟩, ⟨c0, c1⟩, c2, c3⟩, ⟨⟨c4, c5⟩, c6, c7⟩, ⟨c8, c9⟩, c10, c11, c12⟩, fl⟩ := S1.out.tree
 go_wp2_with fail
 refine (CF.out _ S1.out).mono ?_
 rintro e w2 ⟨rfl, hb⟩
 have S2 := Lib.hid (S1.out.next hb)
 clear hb f0 f1 f2 f3 c0 c1 c2 c3 c4 c5 c6 c7 c8 c9 c10 c11 c12 fl S1
 obtain ⟨⟨⟨⟨⟨f0, f1⟩, f2, f3⟩, ⟨c0, c1⟩, c2, c3⟩, ⟨⟨c4, c5⟩, c6, c7⟩, ⟨c8, c9⟩, c10, c11, c12⟩, fl⟩ := S2.out.tree
 go_wp2_with fail
 refine (SP.out _ S2.out.e).mono ?_
 rintro e w3 ⟨rfl, hb⟩
 have S3 := Lib.hid (S2.out.next hb)
 clear hb f0 f1 f2 f3 c0 c1 c2 c3 c4 c5 c6 c7 c8 c9 c10 c11 c12 fl S2
 obtain ⟨⟨⟨⟨⟨f0, f1⟩, f2, f3⟩, ⟨c0, c1⟩, c2, c3⟩, ⟨⟨c4, c5⟩, c6, c7⟩, ⟨c8, c9⟩, c10, c11, c12⟩, fl⟩ := S3.out.tree
 go_wp2_with fail
 go_ret
 exact ⟨rfl, S3.out.b⟩

set_option maxHeartbeats 8000000 in
theorem moves_high (v : Fv) (f : Dd.Fd) (x : Dd.Ca) (dx : Int) (hdx : -9223372036854775808 ≤ dx ∧ dx ≤ 9223372036854775807) (w : World) (hE : Env w) (hF : FRw w w.heap.size v f) (hv : Dd.vastF f = false) (h0 : Dd.fieldE f = 0) (hl : 100000 < dx) :
  Calls Tryz.prog 7 #[fval v f, caval x, .int .i64 dx] w fun e w' => e = .returned (.bool true) ∧ Below w.heap.size w w' := by
 have va := fun W (h : Lc w v f x none [] W) => vast_any v f W h.raw
 rw [hv] at va
 have cf := fun W (h : Lc w v f x none [] W) => checkField_any v f W (h.rd hv)
 rw [h0] at cf
 have d1 : decide (dx < -100000) = false := decide_eq_false (by omega)
 have d2 : decide (dx > 100000) = true := decide_eq_true hl
 have SP := Lib.hid (fun W (h : Env W) => spoken_any W h)
 have S0 := Lib.hid (Lc.new (x := x) (A := none) (y := []) hE hF (Rd.nil _ _ _ _))
 simp only [fval_def, caval_def] at va cf S0 ⊢
 have VA := Lib.hid va
 have CF := Lib.hid cf
 clear hF hv hE va hdx cf h0 hl
 go_enter Tryz.func7, Tryz.ntmps7
 obtain ⟨⟨⟨⟨⟨f0, f1⟩, f2, f3⟩, ⟨c0, c1⟩, c2, c3⟩, ⟨⟨c4, c5⟩, c6, c7⟩, ⟨c8, c9⟩, c10, c11, c12⟩, fl⟩ := S0.out.tree
 go_wp2_with fail
 refine (VA.out _ S0.out).mono ?_
 rintro e w1 ⟨rfl, hb⟩
 have S1 := Lib.hid (S0.out.next hb)
 clear hb f0 f1 f2 f3 c0 c1 c2 c3 c4 c5 c6 c7 c8 c9 c10 c11 c12 fl S0
 obtain ⟨⟨⟨⟨⟨f0, f1⟩, f2, f3⟩, ⟨c0, c1⟩, c2, c3⟩, ⟨⟨c4, c5⟩, c6, c7⟩, ⟨c8, c9⟩, c10, c11, c12⟩, fl⟩ := S1.out.tree
 go_wp2_with fail
 refine (CF.out _ S1.out).mono ?_
 rintro e w2 ⟨rfl, hb⟩
 have S2 := Lib.hid (S1.out.next hb)
 clear hb f0 f1 f2 f3 c0 c1 c2 c3 c4 c5 c6 c7 c8 c9 c10 c11 c12 fl S1
 obtain ⟨⟨⟨⟨⟨f0, f1⟩, f2, f3⟩, ⟨c0, c1⟩, c2, c3⟩, ⟨⟨c4, c5⟩, c6, c7⟩, ⟨c8, c9⟩, c10, c11, c12⟩, fl⟩ := S2.out.tree
 go_wp2_with fail
 refine (SP.out _ S2.out.e).mono ?_
 rintro e w3 ⟨rfl, hb⟩
 have S3 := Lib.hid (S2.out.next hb)
 clear hb f0 f1 f2 f3 c0 c1 c2 c3 c4 c5 c6 c7 c8 c9 c10 c11 c12 fl S2
 obtain ⟨⟨⟨⟨⟨f0, f1⟩, f2, f3⟩, ⟨c0, c1⟩, c2, c3⟩, ⟨⟨c4, c5⟩, c6, c7⟩, ⟨c8, c9⟩, c10, c11, c12⟩, fl⟩ := S3.out.tree
 go_wp2_with fail
 go_ret
 exact ⟨rfl, S3.out.b⟩

set_option maxHeartbeats 8000000 in
theorem moves_main (v : Fv) (f : Dd.Fd) (x : Dd.Ca) (dx : Int) (hdx : -9223372036854775808 ≤ dx ∧ dx ≤ 9223372036854775807) (w : World) (hE : Env w) (hF : FRw w w.heap.size v f) (hv : Dd.vastF f = false) (h0 : Dd.fieldE f = 0) (hlo : -100000 ≤ dx) (hhi : dx ≤ 100000) :
  Calls Tryz.prog 7 #[fval v f, caval x, .int .i64 dx] w fun e w' => e = .returned (.bool true) ∧ Below w.heap.size w w' := by
 obtain ⟨i0, hi0, hz0, hz1, hz2⟩ := info_parts infoSt
 have va := fun W (h : Lc w v f x none [] W) => vast_any v f W h.raw
 rw [hv] at va
 have cf := fun W (h : Lc w v f x none [] W) => checkField_any v f W (h.rd hv)
 rw [h0] at cf
 have na := fun W (h : Lc w v f x none [] W) => Nature_any v f W (h.rd hv)
 have bn := fun W (h : Lc w v f x none [] W) => dBounds_any v f x 3 W (h.rd hv) h.e.sn
 rw [show Dd.natureF f = (Dd.nat f, 0) by unfold Dd.natureF; rw [if_neg (by simpa using h0)]] at na
 have MB := Lib.hid (fun (h : Dd.fieldE (Dd.mv f dx) = 0) => Dd.boundsF_mv (c := x) (dx := dx) (r := 3) h0 h)
 have ME := Lib.hid (fun (h : ∀ s ∈ f.st, 0 ≤ s.2 + dx ∧ s.2 + dx ≤ 100000) => Dd.fieldE_mv (dx := dx) h0 h)
 have hln : (Dd.nat f).length ≤ 1000000 := by have := (Dd.nat_len h0).1; omega
 have hlb : (Dd.boundsF f x 3).1.length ≤ 1000000 := by
  unfold Dd.boundsF
  by_cases hc : Dd.callE f x = 0
  ·rw [if_neg (by simpa using hc), if_pos (by decide)]
   have h1 := Dd.gaps_len hc
   have h2 := (Dd.field_facts h0).2.2.1
   have h3 := Dd.bnds_len f x 3
   dsimp only
   omega
  ·rw [if_pos hc]
   simp
 obtain ⟨L, hL⟩ : ∃ L, (Dd.boundsF f x 3).1 = L := ⟨_, rfl⟩
 obtain ⟨E, hEE⟩ : ∃ E, (Dd.boundsF f x 3).2 = E := ⟨_, rfl⟩
 rw [hL] at hlb
 rw [hL, hEE] at bn
 have HL := Lib.hid hL
 have HEE := Lib.hid hEE
 have HN := Lib.hid (show Dd.nat (Dd.mv f dx) = Dd.nat f from Dd.nat_mv f dx)
 have HRX := Lib.hid (Dd.range_x h0)
 have HV := Lib.hid hv
 have HE := Lib.hid hE
 have HN1 := Lib.hid (fun s hs => (hF.small hv).n1 s hs)
 have hn12 := (Dd.field_facts h0).2.2.1
 have d1 : decide (dx < -100000) = false := decide_eq_false (by omega)
 have d2 : decide (dx > 100000) = false := decide_eq_false (by omega)
 have SP := Lib.hid (fun W (h : Env W) => spoken_any W h)
 have S0 := Lib.hid (Lc.new (x := x) (A := none) (y := []) hE hF (Rd.nil _ _ _ _))
 simp only [fval_def, caval_def] at va cf na bn S0 ⊢
 have VA := Lib.hid va
 have CF := Lib.hid cf
 have NA := Lib.hid na
 have BN := Lib.hid bn
 clear hF hv hE va hdx cf h0 na bn hL hEE
 go_enter Tryz.func7, Tryz.ntmps7
 obtain ⟨⟨⟨⟨⟨f0, f1⟩, f2, f3⟩, ⟨c0, c1⟩, c2, c3⟩, ⟨⟨c4, c5⟩, c6, c7⟩, ⟨c8, c9⟩, c10, c11, c12⟩, fl⟩ := S0.out.tree
 go_wp2_with fail
 refine (VA.out _ S0.out).mono ?_
 rintro e w1 ⟨rfl, hb⟩
 have S1 := Lib.hid (S0.out.next hb)
 clear hb f0 f1 f2 f3 c0 c1 c2 c3 c4 c5 c6 c7 c8 c9 c10 c11 c12 fl S0
 obtain ⟨⟨⟨⟨⟨f0, f1⟩, f2, f3⟩, ⟨c0, c1⟩, c2, c3⟩, ⟨⟨c4, c5⟩, c6, c7⟩, ⟨c8, c9⟩, c10, c11, c12⟩, fl⟩ := S1.out.tree
 go_wp2_with fail
 refine (CF.out _ S1.out).mono ?_
 rintro e w2 ⟨rfl, hb⟩
 have S2 := Lib.hid (S1.out.next hb)
 clear hb f0 f1 f2 f3 c0 c1 c2 c3 c4 c5 c6 c7 c8 c9 c10 c11 c12 fl S1
 obtain ⟨⟨⟨⟨⟨f0, f1⟩, f2, f3⟩, ⟨c0, c1⟩, c2, c3⟩, ⟨⟨c4, c5⟩, c6, c7⟩, ⟨c8, c9⟩, c10, c11, c12⟩, fl⟩ := S2.out.tree
 have hgl : w.heap.size + 1 < w2.heap.size := S2.out.kC.lt
 have hb5 := (Below.refl w2.heap.size w2).alloc (Nat.le_refl _) (.cells #[.slice none 0 0, .slice v.a2 f.li.length v.c2, .slice v.a3 f.pa.length v.c3, .slice v.a4 f.va.length v.c4] 27)
 have SN := Lib.hid (S2.out.next hb5)
 have KN := Lib.hid (Bk.new w2 27 #[.slice none 0 0, .slice v.a2 f.li.length v.c2, .slice v.a3 f.pa.length v.c3, .slice v.a4 f.va.length v.c4])
 clear hb5
 go_upto_region 5 with fail
 refine wp_cutW (fun V9 => Lc w v f x none [] V9 ∧ Bk V9 w2.heap.size 27 #[.slice none 0 0, .slice v.a2 f.li.length v.c2, .slice v.a3 f.pa.length v.c3, .slice v.a4 f.va.length v.c4]) ⟨SN.out, KN.out⟩ ?_
 rintro W5 ⟨hs, hk⟩
 have S5 := Lib.hid hs
 have KG := Lib.hid hk
 obtain ⟨g, hg⟩ : ∃ g, w2.heap.size = g := ⟨_, rfl⟩
 rw [hg] at KG hgl ⊢
 clear f0 f1 f2 f3 c0 c1 c2 c3 c4 c5 c6 c7 c8 c9 c10 c11 c12 fl SN KN S2 hs hk hg
 have HGL := Lib.hid hgl
 clear hgl
 go_wp2_with fail
 go_loopw [8] (fun I wr => ∃ (k : Nat) (V : Value), k ≤ f.st.length ∧ I = .int .i64 k ∧ Lc w v f x none [] wr ∧ Bk wr g 27 #[V, .slice v.a2 f.li.length v.c2, .slice v.a3 f.pa.length v.c3, .slice v.a4 f.va.length v.c4] ∧ wr.ownsRow (g + 1) 62 2 V k (scells ((Dd.mv f dx).st.take k)) ∧ ∀ j (h : j < f.st.length), j < k → 0 ≤ f.st[j].2 + dx ∧ f.st[j].2 + dx ≤ 100000) (fun I _ => f.st.length - (intOf I).toNat)
 case atStart => exact ⟨0, _, Nat.zero_le _, rfl, S5.out, KG.out, World.ownsRow_nil _ _ _ _, fun j h hj => absurd hj (by omega)⟩
 case round =>
  obtain ⟨k, V, hk, rfl, hs, hkg, hown, ha⟩ := hrel
  have HA := Lib.hid ha
  have S6 := Lib.hid hs
  have KG6 := Lib.hid hkg
  have HO6 := Lib.hid hown
  clear ha hs hkg hown S5 KG
  obtain ⟨⟨⟨⟨⟨f0, f1⟩, f2, f3⟩, ⟨c0, c1⟩, c2, c3⟩, ⟨⟨c4, c5⟩, c6, c7⟩, ⟨c8, c9⟩, c10, c11, c12⟩, fl⟩ := S6.out.tree
  by_cases hlt : k < f.st.length
  ·obtain ⟨b, off, hA1, hb, e0, e1⟩ := (S6.out.rd HV.out).st.station hlt
   have hx0 := HRX.out _ (List.getElem_mem hlt)
   have hmt := Dd.mv_take (dx := dx) hlt
   have hnm := HN1.out _ (List.getElem_mem hlt)
   obtain ⟨q, hq⟩ : ∃ q, f.st[k] = q := ⟨_, rfl⟩
   rw [hq] at e0 e1 hx0 hmt hnm
   have HQ := Lib.hid hq
   obtain ⟨nm, X⟩ := q
   dsimp only at e0 e1 hx0 hmt hnm
   have hw1 : IntKind.i64.wrap (X + dx) = X + dx := IntWalk.i64_in _ (by omega)
   have HMT := Lib.hid hmt
   have hb6 := (Below.refl wr.heap.size wr).alloc (Nat.le_refl _) (.cells #[.string ⟨nm.toArray⟩, .int .i64 (X + dx)] 62)
   have hgw := KG6.out.lt
   have SN := Lib.hid (S6.out.next hb6)
   have KN := Lib.hid (KG6.out.below hb6 hgw)
   have KX := Lib.hid (Bk.new wr 62 #[.string ⟨nm.toArray⟩, .int .i64 (X + dx)])
   have HOX := Lib.hid (own_belowG HO6.out hb6)
   have f0' := f0
   rw [hA1] at f0'
   clear hb6 hmt hq
   go_upto_region 10 with fail
   refine wp_cutW (fun V9 => Lc w v f x none [] V9 ∧ Bk V9 g 27 #[V, .slice v.a2 f.li.length v.c2, .slice v.a3 f.pa.length v.c3, .slice v.a4 f.va.length v.c4] ∧ V9.ownsRow (g + 1) 62 2 V k (scells ((Dd.mv f dx).st.take k)) ∧ Bk V9 wr.heap.size 62 #[.string ⟨nm.toArray⟩, .int .i64 (X + dx)]) ⟨SN.out, KN.out, HOX.out, KX.out⟩ ?_
   rintro W7 ⟨hs, hkg, hown, hkx⟩
   have S7 := Lib.hid hs
   have KG7 := Lib.hid hkg
   have HO7 := Lib.hid hown
   have KX7 := Lib.hid hkx
   obtain ⟨bx, hbx⟩ : ∃ b, wr.heap.size = b := ⟨_, rfl⟩
   rw [hbx] at KX7 ⊢
   clear f0 f1 f2 f3 c0 c1 c2 c3 c4 c5 c6 c7 c8 c9 c10 c11 c12 fl f0' e0 e1 SN KN KX HOX S6 KG6 HO6 hs hkg hown hkx hgw hbx hb hA1
   have x0 := (KX7.out.cell 0).trans rfl
   have x1 := (KX7.out.cell 1).trans rfl
   have xl := KX7.out.lt
   by_cases r1 : X + dx < 0
   ·have q1 : decide (X + dx < 0) = true := decide_eq_true r1
    go_wp2_with fail
    refine (SP.out _ S7.out.e).mono ?_
    rintro e w8 ⟨rfl, hb⟩
    have HB8 := Lib.hid (S7.out.next hb).b
    clear hb
    go_wp2_with fail
    go_ret
    exact ⟨rfl, HB8.out⟩
   have q1 : decide (X + dx < 0) = false := decide_eq_false r1
   by_cases r2 : 100000 < X + dx
   ·have q2 : decide (X + dx > 100000) = true := decide_eq_true r2
    go_wp2_with fail
    refine (SP.out _ S7.out.e).mono ?_
    rintro e w8 ⟨rfl, hb⟩
    have HB8 := Lib.hid (S7.out.next hb).b
    clear hb
    go_wp2_with fail
    go_ret
    exact ⟨rfl, HB8.out⟩
   have q2 : decide (X + dx > 100000) = false := decide_eq_false r2
   have HIN := Lib.hid (show 0 ≤ X + dx ∧ X + dx ≤ 100000 by omega)
   clear r1 r2
   have g0 := (KG7.out.cell 0).trans rfl
   have gf := KG7.out.frozen 0
   have gl := KG7.out.lt
   have hown7 := HO7.out
   have hk12 : k ≤ 12 := by omega
   go_wp2_with (at_builtin; refine wpList_appN rfl (.tmp 63) (.tmp 65) 22 rfl 62 i0 _ 2 24 Tryz.underlying22 hi0 hz0 hz1 hz2 rfl (by omega) (g + 1) V k _ _ 1 1 W7 rfl hown7 rfl rfl (by intro u hu; simp only [List.mem_cons, List.not_mem_nil, or_false] at hu; rcases hu with rfl | rfl <;> rfl) (by omega) (by unfold maxLen; omega) (by omega) gl ?_; intro V2 W2 hv2 hb2; obtain ⟨gv, cv, rfl⟩ := ownsRow_succ hv2; have KG8 := Lib.hid (KG7.out.below hb2 (Nat.lt_succ_self _)); have S8 := Lib.hid (show Below (g + 1) W7 W2 from hb2); have HV2 := Lib.hid hv2; have hz2w := hb2.size; have gl2 := KG8.out.lt; have g02 := (KG8.out.cell 0).trans rfl; have gf2 := KG8.out.frozen 0; clear hv2 hb2 g0 gf)
   go_roundw
   case rel =>
    have hglt := HGL.out
    have hS8 : Lc w v f x none [] W2 := ⟨S7.out.b.trans (S8.out.mono (by omega)), HE.out.step (S7.out.b.trans (S8.out.mono (by omega))), S7.out.kF.below S8.out (by omega), S7.out.kC.below S8.out (by omega), S7.out.r.below S8.out (by omega), S7.out.rY.below S8.out (by omega)⟩
    refine ⟨k + 1, .slice (some ⟨gv, 0, none⟩) (k + 1) cv, by omega, by go_num, hS8.far HE.out hglt 0 _, KG8.out.setA 0 _ _ (by simp only [List.setIfInBounds_toArray, List.set_cons_succ, List.set_cons_zero]), ?_, fun j h hj => ?_⟩
    ·rw [HMT.out]
     exact own_set HV2.out (p := ⟨g, 0, none⟩) (Nat.lt_succ_self _) _
    ·by_cases e : j = k
     ·subst e
      rw [HQ.out]
      exact HIN.out
     ·exact HA.out j h (by omega)
   case measure => simp [intOf]; omega
  ·obtain rfl : k = f.st.length := by omega
   have hmvE := ME.out (fun s hs => by obtain ⟨j, hj, rfl⟩ := List.getElem_of_mem hs; exact HA.out j hj hj)
   have hMB := MB.out hmvE
   have hok := HO6.out
   rw [show (Dd.mv f dx).st.take f.st.length = (Dd.mv f dx).st from by rw [← Dd.mv_len f dx, List.take_length]] at hok
   obtain ⟨A', c', rfl, -⟩ := ownB_rd hok (by rw [scells_len, Dd.mv_len])
   obtain ⟨-, hmr⟩ := mv_rd (S6.out.rd HV.out) hok
   have hml := Dd.mv_len f dx
   have HMR := Lib.hid hmr
   have naG := fun W (hW : Below wr.heap.size wr W) => Nature_any _ (Dd.mv f dx) W ((hmr.below hW (Nat.le_refl _)).more hW.size)
   have bnG := fun W (hW : Below wr.heap.size wr W) (hs : Sn W) => dBounds_any _ (Dd.mv f dx) x 3 W ((hmr.below hW (Nat.le_refl _)).more hW.size) hs
   have cfG := fun W (hW : Below wr.heap.size wr W) => checkField_any _ (Dd.mv f dx) W ((hmr.below hW (Nat.le_refl _)).more hW.size)
   rw [show Dd.natureF (Dd.mv f dx) = (Dd.nat f, 0) by unfold Dd.natureF; rw [if_neg (by simpa using hmvE), HN.out]] at naG
   rw [hMB, HL.out, HEE.out] at bnG
   rw [hmvE] at cfG
   simp only [fval_def, caval_def, hml, show (Dd.mv f dx).li = f.li from rfl, show (Dd.mv f dx).pa = f.pa from rfl, show (Dd.mv f dx).va = f.va from rfl] at naG bnG cfG
   have NAG := Lib.hid naG
   have BNG := Lib.hid bnG
   have CFG := Lib.hid cfG
   have SB := Lib.hid (fun A1 A2 c1 c2 (ys : List Dd.Bd) W h1 h2 hl => sameBounds_same A1 A2 c1 c2 ys W h1 h2 hl)
   clear naG bnG cfG hmvE hMB hok hml hmr HO6 hlt
   have T6 := Lib.hid (Below.refl wr.heap.size wr)
   have g0 := (KG6.out.cell 0).trans rfl
   have g1 := (KG6.out.cell 1).trans rfl
   have g2 := (KG6.out.cell 2).trans rfl
   have g3 := (KG6.out.cell 3).trans rfl
   have gl := KG6.out.lt
   go_wp2_with fail
   refine (NA.out _ S6.out).mono ?_
   rintro e w7x ⟨A1, k1, rfl, hrd, -, hb⟩
   have S7 := Lib.hid (S6.out.next hb)
   have KG7 := Lib.hid (KG6.out.below hb KG6.out.lt)
   have T7 := Lib.hid (T6.out.trans (hb.mono T6.out.size))
   have R1 := Lib.hid hrd
   clear hrd
   clear hb f0 f1 f2 f3 c0 c1 c2 c3 c4 c5 c6 c7 c8 c9 c10 c11 c12 fl g0 g1 g2 g3 gl S6 KG6 T6
   obtain ⟨⟨⟨⟨⟨f0, f1⟩, f2, f3⟩, ⟨c0, c1⟩, c2, c3⟩, ⟨⟨c4, c5⟩, c6, c7⟩, ⟨c8, c9⟩, c10, c11, c12⟩, fl⟩ := S7.out.tree
   have g0 := (KG7.out.cell 0).trans rfl
   have g1 := (KG7.out.cell 1).trans rfl
   have g2 := (KG7.out.cell 2).trans rfl
   have g3 := (KG7.out.cell 3).trans rfl
   have gl := KG7.out.lt
   go_wp2_with fail
   refine (NAG.out _ T7.out).mono ?_
   rintro e w8x ⟨A2, k2, rfl, hrd, -, hb⟩
   have S8 := Lib.hid (S7.out.next hb)
   have KG8 := Lib.hid (KG7.out.below hb KG7.out.lt)
   have T8 := Lib.hid (T7.out.trans (hb.mono T7.out.size))
   have R1N := Lib.hid ((R1.out.below hb (Nat.le_refl _)).more hb.size)
   clear R1
   have R1 := R1N
   clear R1N
   have R2 := Lib.hid hrd
   clear hrd
   clear hb f0 f1 f2 f3 c0 c1 c2 c3 c4 c5 c6 c7 c8 c9 c10 c11 c12 fl g0 g1 g2 g3 gl S7 KG7 T7
   obtain ⟨⟨⟨⟨⟨f0, f1⟩, f2, f3⟩, ⟨c0, c1⟩, c2, c3⟩, ⟨⟨c4, c5⟩, c6, c7⟩, ⟨c8, c9⟩, c10, c11, c12⟩, fl⟩ := S8.out.tree
   have g0 := (KG8.out.cell 0).trans rfl
   have g1 := (KG8.out.cell 1).trans rfl
   have g2 := (KG8.out.cell 2).trans rfl
   have g3 := (KG8.out.cell 3).trans rfl
   have gl := KG8.out.lt
   go_wp2_with fail
   refine (BN.out _ S8.out).mono ?_
   rintro e w9x ⟨A3, k3, rfl, hrd, -, hb⟩
   have S9 := Lib.hid (S8.out.next hb)
   have KG9 := Lib.hid (KG8.out.below hb KG8.out.lt)
   have T9 := Lib.hid (T8.out.trans (hb.mono T8.out.size))
   have R1N := Lib.hid ((R1.out.below hb (Nat.le_refl _)).more hb.size)
   clear R1
   have R1 := R1N
   clear R1N
   have R2N := Lib.hid ((R2.out.below hb (Nat.le_refl _)).more hb.size)
   clear R2
   have R2 := R2N
   clear R2N
   have R3 := Lib.hid hrd
   clear hrd
   clear hb f0 f1 f2 f3 c0 c1 c2 c3 c4 c5 c6 c7 c8 c9 c10 c11 c12 fl g0 g1 g2 g3 gl S8 KG8 T8
   obtain ⟨⟨⟨⟨⟨f0, f1⟩, f2, f3⟩, ⟨c0, c1⟩, c2, c3⟩, ⟨⟨c4, c5⟩, c6, c7⟩, ⟨c8, c9⟩, c10, c11, c12⟩, fl⟩ := S9.out.tree
   have g0 := (KG9.out.cell 0).trans rfl
   have g1 := (KG9.out.cell 1).trans rfl
   have g2 := (KG9.out.cell 2).trans rfl
   have g3 := (KG9.out.cell 3).trans rfl
   have gl := KG9.out.lt
   go_wp2_with fail
   refine (BNG.out _ T9.out S9.out.e.sn).mono ?_
   rintro e w10x ⟨A4, k4, rfl, hrd, -, hb⟩
   have S10 := Lib.hid (S9.out.next hb)
   have KG10 := Lib.hid (KG9.out.below hb KG9.out.lt)
   have T10 := Lib.hid (T9.out.trans (hb.mono T9.out.size))
   have R1N := Lib.hid ((R1.out.below hb (Nat.le_refl _)).more hb.size)
   clear R1
   have R1 := R1N
   clear R1N
   have R2N := Lib.hid ((R2.out.below hb (Nat.le_refl _)).more hb.size)
   clear R2
   have R2 := R2N
   clear R2N
   have R3N := Lib.hid ((R3.out.below hb (Nat.le_refl _)).more hb.size)
   clear R3
   have R3 := R3N
   clear R3N
   have R4 := Lib.hid hrd
   clear hrd
   clear hb f0 f1 f2 f3 c0 c1 c2 c3 c4 c5 c6 c7 c8 c9 c10 c11 c12 fl g0 g1 g2 g3 gl S9 KG9 T9
   obtain ⟨⟨⟨⟨⟨f0, f1⟩, f2, f3⟩, ⟨c0, c1⟩, c2, c3⟩, ⟨⟨c4, c5⟩, c6, c7⟩, ⟨c8, c9⟩, c10, c11, c12⟩, fl⟩ := S10.out.tree
   have g0 := (KG10.out.cell 0).trans rfl
   have g1 := (KG10.out.cell 1).trans rfl
   have g2 := (KG10.out.cell 2).trans rfl
   have g3 := (KG10.out.cell 3).trans rfl
   have gl := KG10.out.lt
   go_wp2_with fail
   refine (SP.out _ S10.out.e).mono ?_
   rintro e w11x ⟨rfl, hb⟩
   have S11 := Lib.hid (S10.out.next hb)
   have KG11 := Lib.hid (KG10.out.below hb KG10.out.lt)
   have T11 := Lib.hid (T10.out.trans (hb.mono T10.out.size))
   have R1N := Lib.hid ((R1.out.below hb (Nat.le_refl _)).more hb.size)
   clear R1
   have R1 := R1N
   clear R1N
   have R2N := Lib.hid ((R2.out.below hb (Nat.le_refl _)).more hb.size)
   clear R2
   have R2 := R2N
   clear R2N
   have R3N := Lib.hid ((R3.out.below hb (Nat.le_refl _)).more hb.size)
   clear R3
   have R3 := R3N
   clear R3N
   have R4N := Lib.hid ((R4.out.below hb (Nat.le_refl _)).more hb.size)
   clear R4
   have R4 := R4N
   clear R4N
   clear hb f0 f1 f2 f3 c0 c1 c2 c3 c4 c5 c6 c7 c8 c9 c10 c11 c12 fl g0 g1 g2 g3 gl S10 KG10 T10
   obtain ⟨⟨⟨⟨⟨f0, f1⟩, f2, f3⟩, ⟨c0, c1⟩, c2, c3⟩, ⟨⟨c4, c5⟩, c6, c7⟩, ⟨c8, c9⟩, c10, c11, c12⟩, fl⟩ := S11.out.tree
   have g0 := (KG11.out.cell 0).trans rfl
   have g1 := (KG11.out.cell 1).trans rfl
   have g2 := (KG11.out.cell 2).trans rfl
   have g3 := (KG11.out.cell 3).trans rfl
   have gl := KG11.out.lt
   go_wp2_with fail
   refine (CFG.out _ T11.out).mono ?_
   rintro e w12x ⟨rfl, hb⟩
   have S12 := Lib.hid (S11.out.next hb)
   have KG12 := Lib.hid (KG11.out.below hb KG11.out.lt)
   have T12 := Lib.hid (T11.out.trans (hb.mono T11.out.size))
   have R1N := Lib.hid ((R1.out.below hb (Nat.le_refl _)).more hb.size)
   clear R1
   have R1 := R1N
   clear R1N
   have R2N := Lib.hid ((R2.out.below hb (Nat.le_refl _)).more hb.size)
   clear R2
   have R2 := R2N
   clear R2N
   have R3N := Lib.hid ((R3.out.below hb (Nat.le_refl _)).more hb.size)
   clear R3
   have R3 := R3N
   clear R3N
   have R4N := Lib.hid ((R4.out.below hb (Nat.le_refl _)).more hb.size)
   clear R4
   have R4 := R4N
   clear R4N
   clear hb f0 f1 f2 f3 c0 c1 c2 c3 c4 c5 c6 c7 c8 c9 c10 c11 c12 fl g0 g1 g2 g3 gl S11 KG11 T11
   obtain ⟨⟨⟨⟨⟨f0, f1⟩, f2, f3⟩, ⟨c0, c1⟩, c2, c3⟩, ⟨⟨c4, c5⟩, c6, c7⟩, ⟨c8, c9⟩, c10, c11, c12⟩, fl⟩ := S12.out.tree
   have g0 := (KG12.out.cell 0).trans rfl
   have g1 := (KG12.out.cell 1).trans rfl
   have g2 := (KG12.out.cell 2).trans rfl
   have g3 := (KG12.out.cell 3).trans rfl
   have gl := KG12.out.lt
   go_wp2_with fail
   refine (SB.out A1 A2 k1 k2 _ _ R1.out R2.out hln).mono ?_
   rintro e w13x ⟨rfl, hb⟩
   have S13 := Lib.hid (S12.out.next hb)
   have KG13 := Lib.hid (KG12.out.below hb KG12.out.lt)
   have T13 := Lib.hid (T12.out.trans (hb.mono T12.out.size))
   have R1N := Lib.hid ((R1.out.below hb (Nat.le_refl _)).more hb.size)
   clear R1
   have R1 := R1N
   clear R1N
   have R2N := Lib.hid ((R2.out.below hb (Nat.le_refl _)).more hb.size)
   clear R2
   have R2 := R2N
   clear R2N
   have R3N := Lib.hid ((R3.out.below hb (Nat.le_refl _)).more hb.size)
   clear R3
   have R3 := R3N
   clear R3N
   have R4N := Lib.hid ((R4.out.below hb (Nat.le_refl _)).more hb.size)
   clear R4
   have R4 := R4N
   clear R4N
   clear hb f0 f1 f2 f3 c0 c1 c2 c3 c4 c5 c6 c7 c8 c9 c10 c11 c12 fl g0 g1 g2 g3 gl S12 KG12 T12
   obtain ⟨⟨⟨⟨⟨f0, f1⟩, f2, f3⟩, ⟨c0, c1⟩, c2, c3⟩, ⟨⟨c4, c5⟩, c6, c7⟩, ⟨c8, c9⟩, c10, c11, c12⟩, fl⟩ := S13.out.tree
   have g0 := (KG13.out.cell 0).trans rfl
   have g1 := (KG13.out.cell 1).trans rfl
   have g2 := (KG13.out.cell 2).trans rfl
   have g3 := (KG13.out.cell 3).trans rfl
   have gl := KG13.out.lt
   go_wp2_with fail
   refine (SB.out A3 A4 k3 k4 _ _ R3.out R4.out hlb).mono ?_
   rintro e w14x ⟨rfl, hb⟩
   have S14 := Lib.hid (S13.out.next hb)
   have KG14 := Lib.hid (KG13.out.below hb KG13.out.lt)
   have T14 := Lib.hid (T13.out.trans (hb.mono T13.out.size))
   have R1N := Lib.hid ((R1.out.below hb (Nat.le_refl _)).more hb.size)
   clear R1
   have R1 := R1N
   clear R1N
   have R2N := Lib.hid ((R2.out.below hb (Nat.le_refl _)).more hb.size)
   clear R2
   have R2 := R2N
   clear R2N
   have R3N := Lib.hid ((R3.out.below hb (Nat.le_refl _)).more hb.size)
   clear R3
   have R3 := R3N
   clear R3N
   have R4N := Lib.hid ((R4.out.below hb (Nat.le_refl _)).more hb.size)
   clear R4
   have R4 := R4N
   clear R4N
   clear hb f0 f1 f2 f3 c0 c1 c2 c3 c4 c5 c6 c7 c8 c9 c10 c11 c12 fl g0 g1 g2 g3 gl S13 KG13 T13
   go_wp2_with fail
   go_ret
   exact ⟨rfl, S14.out.b⟩

theorem deedMoves_any (v : Fv) (f : Dd.Fd) (x : Dd.Ca) (dx : Int) (hdx : -9223372036854775808 ≤ dx ∧ dx ≤ 9223372036854775807) (w : World) (hE : Env w) (hF : FRw w w.heap.size v f) :
  Calls Tryz.prog 7 #[fval v f, caval x, .int .i64 dx] w fun e w' => e = .returned (.bool true) ∧ Below w.heap.size w w' := by
 rcases hv : Dd.vastF f with _ | _
 ·by_cases h0 : Dd.fieldE f = 0
  ·by_cases h1 : dx < -100000
   ·exact moves_low v f x dx hdx w hE hF hv h0 h1
   by_cases h2 : 100000 < dx
   ·exact moves_high v f x dx hdx w hE hF hv h0 h2
   ·exact moves_main v f x dx hdx w hE hF hv h0 (by omega) (by omega)
  ·exact moves_bad v f x dx hdx w hE hF hv h0
 ·exact moves_vast v f x dx hdx w hE hF hv

end Go.Proofs.YtcbeefbefapicaaGreatDoor
