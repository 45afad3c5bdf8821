/-
  DeedCalls: the law's walk.
-/
import Derived.Deep.RegionHeld3
import Derived.Test.YtccikcpcfdjobaaGreatDoorBq42
import Derived.Test.YtccikcpcfdjobaaGreatDoorBq32
import Derived.Test.YtccikcpcfdjobaaGreatDoorBq43
import Derived.Test.YtccikcpcfdjobaaGreatDoorBq37
import Derived.Test.YtccikcpcfdjobaaGreatDoorBq35
import Derived.Test.YtccikcpcfdjobaaGreatDoorBq20
import Derived.Test.YtccikcpcfdjobaaGreatDoorBz
set_option linter.unusedVariables false
set_option linter.unusedSimpArgs false
set_option maxHeartbeats 8000000
set_option maxRecDepth 100000
namespace Go.Proofs.YtccikcpcfdjobaaGreatDoor
section
open Go.RowKit

structure Lz (w : World) (v : Fv) (f : Dd.Fd) (x z : Dd.Ca) (gp gq : Nat) (A1 A2 : Option Addr) (l : List Dd.Bd) (A3 A4 : Option Addr) (m : List Int) (W : World) : Prop where
 lc : Lc w v f x none [] W
 kP : Bk W gp 48 #[.int .u8 z.k, .int .i64 z.l, .int .i64 z.o, .int .i64 z.a, .int .i64 z.b, .int .i64 z.s, .int .i64 z.e, .int .i64 z.c.b, .int .i64 z.c.n, .int .i64 z.c.l, .int .i64 z.c.y, .int .i64 z.c.w, .int .i64 z.c.s]
 kQ : Bk W gq 48 #[.int .u8 z.k, .int .i64 z.l, .int .i64 z.o, .int .i64 z.a, .int .i64 z.b, .int .i64 z.s, .int .i64 z.e, .int .i64 z.c.b, .int .i64 z.c.n, .int .i64 z.c.l, .int .i64 z.c.y, .int .i64 z.c.w, .int .i64 z.c.s]
 r1 : Rd W W.heap.size 4 A1 l.length (bcells l)
 r2 : Rd W W.heap.size 4 A2 l.length (bcells l)
 r3 : Rd W W.heap.size 1 A3 m.length (icells m)
 r4 : Rd W W.heap.size 1 A4 m.length (icells m)
section
variable {w W W' : World} {v : Fv} {f : Dd.Fd} {x z : Dd.Ca} {gp gq : Nat} {A1 A2 A3 A4 : Option Addr} {l : List Dd.Bd} {m : List Int}
theorem Lz.next (h : Lz w v f x z gp gq A1 A2 l A3 A4 m W) (hb : Below W.heap.size W W') : Lz w v f x z gp gq A1 A2 l A3 A4 m W' :=
 ⟨h.lc.next hb, h.kP.below hb h.kP.lt, h.kQ.below hb h.kQ.lt, (h.r1.below hb (Nat.le_refl _)).more hb.size, (h.r2.below hb (Nat.le_refl _)).more hb.size, (h.r3.below hb (Nat.le_refl _)).more hb.size, (h.r4.below hb (Nat.le_refl _)).more hb.size⟩
theorem Lz.tree (h : Lz w v f x z gp gq A1 A2 l A3 A4 m W) : (((((W.cell? ⟨w.heap.size, 0, none⟩ = some (.slice v.a1 f.st.length v.c1) ∧ W.cell? ⟨w.heap.size, 1, none⟩ = some (.slice v.a2 f.li.length v.c2)) ∧ (W.cell? ⟨w.heap.size, 2, none⟩ = some (.slice v.a3 f.pa.length v.c3) ∧ (W.cell? ⟨w.heap.size, 3, none⟩ = some (.slice v.a4 f.va.length v.c4) ∧ W.cell? ⟨w.heap.size + 1, 0, none⟩ = some (.int .u8 x.k)))) ∧ ((W.cell? ⟨w.heap.size + 1, 1, none⟩ = some (.int .i64 x.l) ∧ W.cell? ⟨w.heap.size + 1, 2, none⟩ = some (.int .i64 x.o)) ∧ (W.cell? ⟨w.heap.size + 1, 3, none⟩ = some (.int .i64 x.a) ∧ (W.cell? ⟨w.heap.size + 1, 4, none⟩ = some (.int .i64 x.b) ∧ W.cell? ⟨w.heap.size + 1, 5, none⟩ = some (.int .i64 x.s))))) ∧ (((W.cell? ⟨w.heap.size + 1, 6, none⟩ = some (.int .i64 x.e) ∧ W.cell? ⟨w.heap.size + 1, 7, none⟩ = some (.int .i64 x.c.b)) ∧ (W.cell? ⟨w.heap.size + 1, 8, none⟩ = some (.int .i64 x.c.n) ∧ (W.cell? ⟨w.heap.size + 1, 9, none⟩ = some (.int .i64 x.c.l) ∧ W.cell? ⟨w.heap.size + 1, 10, none⟩ = some (.int .i64 x.c.y)))) ∧ ((W.cell? ⟨w.heap.size + 1, 11, none⟩ = some (.int .i64 x.c.w) ∧ (W.cell? ⟨w.heap.size + 1, 12, none⟩ = some (.int .i64 x.c.s) ∧ W.cell? ⟨gp, 0, none⟩ = some (.int .u8 z.k))) ∧ (W.cell? ⟨gp, 1, none⟩ = some (.int .i64 z.l) ∧ (W.cell? ⟨gp, 2, none⟩ = some (.int .i64 z.o) ∧ W.cell? ⟨gp, 3, none⟩ = some (.int .i64 z.a)))))) ∧ ((((W.cell? ⟨gp, 4, none⟩ = some (.int .i64 z.b) ∧ W.cell? ⟨gp, 5, none⟩ = some (.int .i64 z.s)) ∧ (W.cell? ⟨gp, 6, none⟩ = some (.int .i64 z.e) ∧ (W.cell? ⟨gp, 7, none⟩ = some (.int .i64 z.c.b) ∧ W.cell? ⟨gp, 8, none⟩ = some (.int .i64 z.c.n)))) ∧ ((W.cell? ⟨gp, 9, none⟩ = some (.int .i64 z.c.l) ∧ (W.cell? ⟨gp, 10, none⟩ = some (.int .i64 z.c.y) ∧ W.cell? ⟨gp, 11, none⟩ = some (.int .i64 z.c.w))) ∧ (W.cell? ⟨gp, 12, none⟩ = some (.int .i64 z.c.s) ∧ (W.cell? ⟨gq, 0, none⟩ = some (.int .u8 z.k) ∧ W.cell? ⟨gq, 1, none⟩ = some (.int .i64 z.l))))) ∧ (((W.cell? ⟨gq, 2, none⟩ = some (.int .i64 z.o) ∧ W.cell? ⟨gq, 3, none⟩ = some (.int .i64 z.a)) ∧ (W.cell? ⟨gq, 4, none⟩ = some (.int .i64 z.b) ∧ (W.cell? ⟨gq, 5, none⟩ = some (.int .i64 z.s) ∧ W.cell? ⟨gq, 6, none⟩ = some (.int .i64 z.e)))) ∧ ((W.cell? ⟨gq, 7, none⟩ = some (.int .i64 z.c.b) ∧ (W.cell? ⟨gq, 8, none⟩ = some (.int .i64 z.c.n) ∧ W.cell? ⟨gq, 9, none⟩ = some (.int .i64 z.c.l))) ∧ (W.cell? ⟨gq, 10, none⟩ = some (.int .i64 z.c.y) ∧ (W.cell? ⟨gq, 11, none⟩ = some (.int .i64 z.c.w) ∧ W.cell? ⟨gq, 12, none⟩ = some (.int .i64 z.c.s))))))) := by
 obtain ⟨⟨⟨⟨⟨f0, f1⟩, f2, f3⟩, ⟨c0, c1⟩, c2, c3⟩, ⟨⟨c4, c5⟩, c6, c7⟩, ⟨c8, c9⟩, c10, c11, c12⟩, fl⟩ := h.lc.tree
 obtain ⟨⟨⟨⟨p0, p1, p2⟩, p3, p4, p5⟩, ⟨p6, p7, p8⟩, p9, p10, p11, p12⟩, pl⟩ := ca_tree h.kP
 obtain ⟨⟨⟨⟨q0, q1, q2⟩, q3, q4, q5⟩, ⟨q6, q7, q8⟩, q9, q10, q11, q12⟩, ql⟩ := ca_tree h.kQ
 exact ⟨⟨⟨⟨⟨f0, f1⟩, ⟨f2, ⟨f3, c0⟩⟩⟩, ⟨⟨c1, c2⟩, ⟨c3, ⟨c4, c5⟩⟩⟩⟩, ⟨⟨⟨c6, c7⟩, ⟨c8, ⟨c9, c10⟩⟩⟩, ⟨⟨c11, ⟨c12, p0⟩⟩, ⟨p1, ⟨p2, p3⟩⟩⟩⟩⟩, ⟨⟨⟨⟨p4, p5⟩, ⟨p6, ⟨p7, p8⟩⟩⟩, ⟨⟨p9, ⟨p10, p11⟩⟩, ⟨p12, ⟨q0, q1⟩⟩⟩⟩, ⟨⟨⟨q2, q3⟩, ⟨q4, ⟨q5, q6⟩⟩⟩, ⟨⟨q7, ⟨q8, q9⟩⟩, ⟨q10, ⟨q11, q12⟩⟩⟩⟩⟩⟩
end
theorem Dd.concA_len (l : List Dd.Bd) : ∀ n p : Nat, (Dd.concA l n p).length ≤ n
  | 0, _ => by simp [Dd.concA]
  | n + 1, p => by
    have := Dd.concA_len l n (p + 1)
    rw [Dd.concA, List.length_append]
    split <;> simp <;> omega
theorem Dd.concF_len (f : Dd.Fd) (x : Dd.Ca) : (Dd.concF f x).1.length ≤ 1000000 := by
 unfold Dd.concF
 split
 ·simp
 ·rename_i h
  have h0 : Dd.callE f x = 0 := by omega
  have hf := Dd.field_facts (Dd.callE_zero h0).1
  have := Dd.concA_len (Dd.bnds f x 0) (Dd.ptsN f - 1) 1
  have h2 := Nat.mul_le_mul hf.2.2.2.1 hf.2.2.1
  have hN : Dd.ptsN f = 1 + f.li.length * f.st.length := rfl
  dsimp only
  omega
theorem Dd.boundsF_len (f : Dd.Fd) (x : Dd.Ca) (r : Int) : (Dd.boundsF f x r).1.length ≤ 1000000 := by
 unfold Dd.boundsF
 split
 ·simp
 ·rename_i h
  have h0 : Dd.callE f x = 0 := by omega
  split
  ·exact Dd.bnds_short h0 r
  ·simp

set_option maxHeartbeats 16000000 in
theorem calls_vast (v : Fv) (f : Dd.Fd) (x : Dd.Ca) (r : Int) (w : World) (hE : Env w) (hF : FRw w w.heap.size v f) (hv : Dd.vastF f = true) :
  Calls Tryz.prog 5 #[fval v f, caval x, .int .i64 r] w fun e w' => e = .returned (.bool true) ∧ Below w.heap.size w w' := by
 have va := fun W (h : Lc w v f x none [] W) => vast_any v f W h.raw
 rw [hv] at va
 have SP := jQ (fun W (h : Env W) => spoken_any W h)
 have S0 := jQ (Lc.new (x := x) (A := none) (y := []) hE hF (Rd.nil _ _ _ _))
 simp only [fval_def, caval_def] at va S0 ⊢
 have VA := jQ va
 clear hF hv hE va
 go_enter Tryz.func5, Tryz.ntmps5
 obtain ⟨⟨⟨⟨⟨f0, f1⟩, f2, f3⟩, ⟨c0, c1⟩, c2, c3⟩, ⟨⟨c4, c5⟩, c6, c7⟩, ⟨c8, c9⟩, c10, c11, c12⟩, fl⟩ := S0.o.tree
 go_wp2_with fail
 refine (VA.o _ S0.o).mono ?_
 rintro e w1 ⟨rfl, hb⟩
 have S1 := jQ (S0.o.next hb)
 clear hb f0 f1 f2 f3 c0 c1 c2 c3 c4 c5 c6 c7 c8 c9 c10 c11 c12 fl S0
 obtain ⟨⟨⟨⟨⟨f0, f1⟩, f2, f3⟩, ⟨c0, c1⟩, c2, c3⟩, ⟨⟨c4, c5⟩, c6, c7⟩, ⟨c8, c9⟩, c10, c11, c12⟩, fl⟩ := S1.o.tree
 go_wp2_with fail
 refine (SP.o _ S1.o.e).mono ?_
 rintro e w2 ⟨rfl, hb⟩
 have S2 := jQ (S1.o.next hb)
 clear hb f0 f1 f2 f3 c0 c1 c2 c3 c4 c5 c6 c7 c8 c9 c10 c11 c12 fl S1
 obtain ⟨⟨⟨⟨⟨f0, f1⟩, f2, f3⟩, ⟨c0, c1⟩, c2, c3⟩, ⟨⟨c4, c5⟩, c6, c7⟩, ⟨c8, c9⟩, c10, c11, c12⟩, fl⟩ := S2.o.tree
 go_wp2_with fail
 go_ret
 exact ⟨rfl, S2.o.b⟩

set_option maxHeartbeats 16000000 in
theorem calls_main (v : Fv) (f : Dd.Fd) (x : Dd.Ca) (r : Int) (w : World) (hE : Env w) (hF : FRw w w.heap.size v f) (hv : Dd.vastF f = false) :
  Calls Tryz.prog 5 #[fval v f, caval x, .int .i64 r] w fun e w' => e = .returned (.bool true) ∧ Below w.heap.size w w' := by
 have va := fun W (h : Lc w v f x none [] W) => vast_any v f W h.raw
 rw [hv] at va
 have bo := fun W (h : Lc w v f x none [] W) => dBounds_any v f x r W (h.rd hv) h.e.sn
 have qb := fun W (h : Lc w v f x none [] W) => qBoundsF_any v f x r W (h.rd hv)
 have co := fun W (h : Lc w v f x none [] W) => dConc_any v f x W (h.rd hv) h.e.sn
 have qc := fun W (h : Lc w v f x none [] W) => qConcF_any v f x W (h.rd hv)
 have ba := fun W (h : Lc w v f x none [] W) => dBack_any v f x W (h.rd hv) h.e.sn
 have qk := fun W (h : Lc w v f x none [] W) => qBackF_any v f x W (h.rd hv)
 have cc := fun W (h : Lc w v f x none [] W) => dCheckCall_any v f x W (h.rd hv) h.e.sn
 have qq := fun W (h : Lc w v f x none [] W) => qCheckCallF_any v f x W (h.rd hv)
 have hl1 := Dd.boundsF_len f x r
 have hl2 := Dd.concF_len f x
 obtain ⟨l, hl⟩ : ∃ q, (Dd.boundsF f x r).1 = q := ⟨_, rfl⟩
 rw [hl] at bo qb hl1
 obtain ⟨E1, hE1⟩ : ∃ q, (Dd.boundsF f x r).2 = q := ⟨_, rfl⟩
 rw [hE1] at bo qb
 obtain ⟨m, hm⟩ : ∃ q, (Dd.concF f x).1 = q := ⟨_, rfl⟩
 rw [hm] at co qc hl2
 obtain ⟨E2, hE2⟩ : ∃ q, (Dd.concF f x).2 = q := ⟨_, rfl⟩
 rw [hE2] at co qc
 obtain ⟨z, hz⟩ : ∃ q, (Dd.backF f x).1 = q := ⟨_, rfl⟩
 rw [hz] at ba qk
 obtain ⟨E3, hE3⟩ : ∃ q, (Dd.backF f x).2 = q := ⟨_, rfl⟩
 rw [hE3] at ba qk
 obtain ⟨E4, hE4⟩ : ∃ q, Dd.callE f x = q := ⟨_, rfl⟩
 rw [hE4] at cc qq
 have SP := jQ (fun W (h : Env W) => spoken_any W h)
 have S0 := jQ (Lc.new (x := x) (A := none) (y := []) hE hF (Rd.nil _ _ _ _))
 simp only [fval_def, caval_def] at va bo qb co qc ba qk cc qq S0 ⊢
 have VA := jQ va
 have BO := jQ bo
 have QB := jQ qb
 have CO := jQ co
 have QC := jQ qc
 have BA := jQ ba
 have QK := jQ qk
 have CC := jQ cc
 have QQ := jQ qq
 have SB := jQ (fun A1 A2 c1 c2 (ys : List Dd.Bd) W h1 h2 hl => sameBounds_same A1 A2 c1 c2 ys W h1 h2 hl)
 have SI := jQ (fun A1 A2 c1 c2 (ys : List Int) W h1 h2 hl => qSameInts_same A1 A2 c1 c2 ys W h1 h2 hl)
 have HL1 := jQ hl1
 have HL2 := jQ hl2
 clear hF hv hE hl1 hl2 va bo qb co qc ba qk cc qq hl hE1 hm hE2 hz hE3 hE4
 go_enter Tryz.func5, Tryz.ntmps5
 obtain ⟨⟨⟨⟨⟨f0, f1⟩, f2, f3⟩, ⟨c0, c1⟩, c2, c3⟩, ⟨⟨c4, c5⟩, c6, c7⟩, ⟨c8, c9⟩, c10, c11, c12⟩, fl⟩ := S0.o.tree
 go_wp2_with fail
 refine (VA.o _ S0.o).mono ?_
 rintro e w1 ⟨rfl, hb⟩
 have S1 := jQ (S0.o.next hb)
 clear hb f0 f1 f2 f3 c0 c1 c2 c3 c4 c5 c6 c7 c8 c9 c10 c11 c12 fl S0
 obtain ⟨⟨⟨⟨⟨f0, f1⟩, f2, f3⟩, ⟨c0, c1⟩, c2, c3⟩, ⟨⟨c4, c5⟩, c6, c7⟩, ⟨c8, c9⟩, c10, c11, c12⟩, fl⟩ := S1.o.tree
 go_wp2_with fail
 refine (BO.o _ S1.o).mono ?_
 rintro e w2 ⟨A1, k1, rfl, hrd, -, hb⟩
 have S2 := jQ (S1.o.next hb)
 have R1 := jQ hrd
 clear hrd
 clear hb f0 f1 f2 f3 c0 c1 c2 c3 c4 c5 c6 c7 c8 c9 c10 c11 c12 fl S1
 obtain ⟨⟨⟨⟨⟨f0, f1⟩, f2, f3⟩, ⟨c0, c1⟩, c2, c3⟩, ⟨⟨c4, c5⟩, c6, c7⟩, ⟨c8, c9⟩, c10, c11, c12⟩, fl⟩ := S2.o.tree
 go_wp2_with fail
 refine (QB.o _ S2.o).mono ?_
 rintro e w3 ⟨A2, k2, rfl, hrd, hb⟩
 have S3 := jQ (S2.o.next hb)
 have R1N := jQ ((R1.o.below hb (Nat.le_refl _)).more hb.size)
 clear R1
 have R1 := R1N
 clear R1N
 have R2 := jQ hrd
 clear hrd
 clear hb f0 f1 f2 f3 c0 c1 c2 c3 c4 c5 c6 c7 c8 c9 c10 c11 c12 fl S2
 obtain ⟨⟨⟨⟨⟨f0, f1⟩, f2, f3⟩, ⟨c0, c1⟩, c2, c3⟩, ⟨⟨c4, c5⟩, c6, c7⟩, ⟨c8, c9⟩, c10, c11, c12⟩, fl⟩ := S3.o.tree
 go_wp2_with fail
 refine (CO.o _ S3.o).mono ?_
 rintro e w4 ⟨A3, k3, rfl, hrd, hb⟩
 have S4 := jQ (S3.o.next hb)
 have R1N := jQ ((R1.o.below hb (Nat.le_refl _)).more hb.size)
 clear R1
 have R1 := R1N
 clear R1N
 have R2N := jQ ((R2.o.below hb (Nat.le_refl _)).more hb.size)
 clear R2
 have R2 := R2N
 clear R2N
 have R3 := jQ hrd
 clear hrd
 clear hb f0 f1 f2 f3 c0 c1 c2 c3 c4 c5 c6 c7 c8 c9 c10 c11 c12 fl S3
 obtain ⟨⟨⟨⟨⟨f0, f1⟩, f2, f3⟩, ⟨c0, c1⟩, c2, c3⟩, ⟨⟨c4, c5⟩, c6, c7⟩, ⟨c8, c9⟩, c10, c11, c12⟩, fl⟩ := S4.o.tree
 go_wp2_with fail
 refine (QC.o _ S4.o).mono ?_
 rintro e w5 ⟨A4, k4, rfl, hrd, hb⟩
 have S5 := jQ (S4.o.next hb)
 have R1N := jQ ((R1.o.below hb (Nat.le_refl _)).more hb.size)
 clear R1
 have R1 := R1N
 clear R1N
 have R2N := jQ ((R2.o.below hb (Nat.le_refl _)).more hb.size)
 clear R2
 have R2 := R2N
 clear R2N
 have R3N := jQ ((R3.o.below hb (Nat.le_refl _)).more hb.size)
 clear R3
 have R3 := R3N
 clear R3N
 have R4 := jQ hrd
 clear hrd
 clear hb f0 f1 f2 f3 c0 c1 c2 c3 c4 c5 c6 c7 c8 c9 c10 c11 c12 fl S4
 obtain ⟨⟨⟨⟨⟨f0, f1⟩, f2, f3⟩, ⟨c0, c1⟩, c2, c3⟩, ⟨⟨c4, c5⟩, c6, c7⟩, ⟨c8, c9⟩, c10, c11, c12⟩, fl⟩ := S5.o.tree
 go_wp2_with fail
 refine (BA.o _ S5.o).mono ?_
 rintro e w6 ⟨rfl, hb⟩
 have S6 := jQ (S5.o.next hb)
 have R1N := jQ ((R1.o.below hb (Nat.le_refl _)).more hb.size)
 clear R1
 have R1 := R1N
 clear R1N
 have R2N := jQ ((R2.o.below hb (Nat.le_refl _)).more hb.size)
 clear R2
 have R2 := R2N
 clear R2N
 have R3N := jQ ((R3.o.below hb (Nat.le_refl _)).more hb.size)
 clear R3
 have R3 := R3N
 clear R3N
 have R4N := jQ ((R4.o.below hb (Nat.le_refl _)).more hb.size)
 clear R4
 have R4 := R4N
 clear R4N
 clear hb f0 f1 f2 f3 c0 c1 c2 c3 c4 c5 c6 c7 c8 c9 c10 c11 c12 fl S5
 have hbn := Below.rowNew ((Below.refl w6.heap.size w6).alloc (Nat.le_refl _) (.cells #[.int .u8 0, .int .i64 0, .int .i64 0, .int .i64 0, .int .i64 0, .int .i64 0, .int .i64 0, .int .i64 0, .int .i64 0, .int .i64 0, .int .i64 0, .int .i64 0, .int .i64 0] 48)) (Nat.le_refl _) #[.int .u8 z.k, .int .i64 z.l, .int .i64 z.o, .int .i64 z.a, .int .i64 z.b, .int .i64 z.s, .int .i64 z.e, .int .i64 z.c.b, .int .i64 z.c.n, .int .i64 z.c.l, .int .i64 z.c.y, .int .i64 z.c.w, .int .i64 z.c.s]
 have S6n := jQ (S6.o.next hbn)
 have KP := jQ ((Bk.new w6 48 #[.int .u8 0, .int .i64 0, .int .i64 0, .int .i64 0, .int .i64 0, .int .i64 0, .int .i64 0, .int .i64 0, .int .i64 0, .int .i64 0, .int .i64 0, .int .i64 0, .int .i64 0]).row #[.int .u8 z.k, .int .i64 z.l, .int .i64 z.o, .int .i64 z.a, .int .i64 z.b, .int .i64 z.s, .int .i64 z.e, .int .i64 z.c.b, .int .i64 z.c.n, .int .i64 z.c.l, .int .i64 z.c.y, .int .i64 z.c.w, .int .i64 z.c.s])
 have R1N := jQ ((R1.o.below hbn (Nat.le_refl _)).more hbn.size)
 clear R1
 have R1 := R1N
 clear R1N
 have R2N := jQ ((R2.o.below hbn (Nat.le_refl _)).more hbn.size)
 clear R2
 have R2 := R2N
 clear R2N
 have R3N := jQ ((R3.o.below hbn (Nat.le_refl _)).more hbn.size)
 clear R3
 have R3 := R3N
 clear R3N
 have R4N := jQ ((R4.o.below hbn (Nat.le_refl _)).more hbn.size)
 clear R4
 have R4 := R4N
 clear R4N
 clear hbn S6
 go_upto_region 8 with (refine wpList_store_row rfl 48 (.tmp 15) (.tmp 52) rfl w6.heap.size _ rfl rfl 48 _ (Bk.new w6 48 #[.int .u8 0, .int .i64 0, .int .i64 0, .int .i64 0, .int .i64 0, .int .i64 0, .int .i64 0, .int .i64 0, .int .i64 0, .int .i64 0, .int .i64 0, .int .i64 0, .int .i64 0]) (by kernel_rfl) rfl (by kernel_rfl) ?_)
 refine wp_cutW (fun V => Lc w v f x none [] V ∧ Bk V w6.heap.size 48 #[.int .u8 z.k, .int .i64 z.l, .int .i64 z.o, .int .i64 z.a, .int .i64 z.b, .int .i64 z.s, .int .i64 z.e, .int .i64 z.c.b, .int .i64 z.c.n, .int .i64 z.c.l, .int .i64 z.c.y, .int .i64 z.c.w, .int .i64 z.c.s] ∧ Rd V V.heap.size 4 A1 l.length (bcells l) ∧ Rd V V.heap.size 4 A2 l.length (bcells l) ∧ Rd V V.heap.size 1 A3 m.length (icells m) ∧ Rd V V.heap.size 1 A4 m.length (icells m)) ⟨S6n.o, KP.o, R1.o, R2.o, R3.o, R4.o⟩ ?_
 obtain ⟨gKP, hgKP⟩ : ∃ g, w6.heap.size = g := ⟨_, rfl⟩
 rw [hgKP]
 clear KP R1 R2 R3 R4 S6n hgKP
 rintro W6 ⟨hs, hKP, hR1, hR2, hR3, hR4⟩
 have KP := jQ hKP
 clear hKP
 have R1 := jQ hR1
 clear hR1
 have R2 := jQ hR2
 clear hR2
 have R3 := jQ hR3
 clear hR3
 have R4 := jQ hR4
 clear hR4
 have S7 := jQ hs
 clear hs
 obtain ⟨⟨⟨⟨⟨f0, f1⟩, f2, f3⟩, ⟨c0, c1⟩, c2, c3⟩, ⟨⟨c4, c5⟩, c6, c7⟩, ⟨c8, c9⟩, c10, c11, c12⟩, fl⟩ := S7.o.tree
 go_wp2_with fail
 refine (QK.o _ S7.o).mono ?_
 rintro e w8 ⟨rfl, hb⟩
 have S8 := jQ (S7.o.next hb)
 have KPN := jQ (KP.o.below hb KP.o.lt)
 clear KP
 have KP := KPN
 clear KPN
 have R1N := jQ ((R1.o.below hb (Nat.le_refl _)).more hb.size)
 clear R1
 have R1 := R1N
 clear R1N
 have R2N := jQ ((R2.o.below hb (Nat.le_refl _)).more hb.size)
 clear R2
 have R2 := R2N
 clear R2N
 have R3N := jQ ((R3.o.below hb (Nat.le_refl _)).more hb.size)
 clear R3
 have R3 := R3N
 clear R3N
 have R4N := jQ ((R4.o.below hb (Nat.le_refl _)).more hb.size)
 clear R4
 have R4 := R4N
 clear R4N
 clear hb f0 f1 f2 f3 c0 c1 c2 c3 c4 c5 c6 c7 c8 c9 c10 c11 c12 fl S7
 have hbn := Below.rowNew ((Below.refl w8.heap.size w8).alloc (Nat.le_refl _) (.cells #[.int .u8 0, .int .i64 0, .int .i64 0, .int .i64 0, .int .i64 0, .int .i64 0, .int .i64 0, .int .i64 0, .int .i64 0, .int .i64 0, .int .i64 0, .int .i64 0, .int .i64 0] 48)) (Nat.le_refl _) #[.int .u8 z.k, .int .i64 z.l, .int .i64 z.o, .int .i64 z.a, .int .i64 z.b, .int .i64 z.s, .int .i64 z.e, .int .i64 z.c.b, .int .i64 z.c.n, .int .i64 z.c.l, .int .i64 z.c.y, .int .i64 z.c.w, .int .i64 z.c.s]
 have S8n := jQ (S8.o.next hbn)
 have KQ := jQ ((Bk.new w8 48 #[.int .u8 0, .int .i64 0, .int .i64 0, .int .i64 0, .int .i64 0, .int .i64 0, .int .i64 0, .int .i64 0, .int .i64 0, .int .i64 0, .int .i64 0, .int .i64 0, .int .i64 0]).row #[.int .u8 z.k, .int .i64 z.l, .int .i64 z.o, .int .i64 z.a, .int .i64 z.b, .int .i64 z.s, .int .i64 z.e, .int .i64 z.c.b, .int .i64 z.c.n, .int .i64 z.c.l, .int .i64 z.c.y, .int .i64 z.c.w, .int .i64 z.c.s])
 have KPN := jQ (KP.o.below hbn KP.o.lt)
 clear KP
 have KP := KPN
 clear KPN
 have R1N := jQ ((R1.o.below hbn (Nat.le_refl _)).more hbn.size)
 clear R1
 have R1 := R1N
 clear R1N
 have R2N := jQ ((R2.o.below hbn (Nat.le_refl _)).more hbn.size)
 clear R2
 have R2 := R2N
 clear R2N
 have R3N := jQ ((R3.o.below hbn (Nat.le_refl _)).more hbn.size)
 clear R3
 have R3 := R3N
 clear R3N
 have R4N := jQ ((R4.o.below hbn (Nat.le_refl _)).more hbn.size)
 clear R4
 have R4 := R4N
 clear R4N
 clear hbn S8
 go_upto_region 9 with (refine wpList_store_row rfl 48 (.tmp 17) (.tmp 58) rfl w8.heap.size _ rfl rfl 48 _ (Bk.new w8 48 #[.int .u8 0, .int .i64 0, .int .i64 0, .int .i64 0, .int .i64 0, .int .i64 0, .int .i64 0, .int .i64 0, .int .i64 0, .int .i64 0, .int .i64 0, .int .i64 0, .int .i64 0]) (by kernel_rfl) rfl (by kernel_rfl) ?_)
 refine wp_cutW (fun V => Lc w v f x none [] V ∧ Bk V gKP 48 #[.int .u8 z.k, .int .i64 z.l, .int .i64 z.o, .int .i64 z.a, .int .i64 z.b, .int .i64 z.s, .int .i64 z.e, .int .i64 z.c.b, .int .i64 z.c.n, .int .i64 z.c.l, .int .i64 z.c.y, .int .i64 z.c.w, .int .i64 z.c.s] ∧ Bk V w8.heap.size 48 #[.int .u8 z.k, .int .i64 z.l, .int .i64 z.o, .int .i64 z.a, .int .i64 z.b, .int .i64 z.s, .int .i64 z.e, .int .i64 z.c.b, .int .i64 z.c.n, .int .i64 z.c.l, .int .i64 z.c.y, .int .i64 z.c.w, .int .i64 z.c.s] ∧ Rd V V.heap.size 4 A1 l.length (bcells l) ∧ Rd V V.heap.size 4 A2 l.length (bcells l) ∧ Rd V V.heap.size 1 A3 m.length (icells m) ∧ Rd V V.heap.size 1 A4 m.length (icells m)) ⟨S8n.o, KP.o, KQ.o, R1.o, R2.o, R3.o, R4.o⟩ ?_
 obtain ⟨gKQ, hgKQ⟩ : ∃ g, w8.heap.size = g := ⟨_, rfl⟩
 rw [hgKQ]
 clear KP KQ R1 R2 R3 R4 S8n hgKQ
 rintro W8 ⟨hs, hKP, hKQ, hR1, hR2, hR3, hR4⟩
 have KP := jQ hKP
 clear hKP
 have KQ := jQ hKQ
 clear hKQ
 have R1 := jQ hR1
 clear hR1
 have R2 := jQ hR2
 clear hR2
 have R3 := jQ hR3
 clear hR3
 have R4 := jQ hR4
 clear hR4
 have S9 := jQ hs
 clear hs
 have Z0 : Lz w v f x z gKP gKQ A1 A2 l A3 A4 m W8 := ⟨S9.o, KP.o, KQ.o, R1.o, R2.o, R3.o, R4.o⟩
 have TZ := jQ (fun V (h : Lz w v f x z gKP gKQ A1 A2 l A3 A4 m V) => h.tree)
 have s0 : Lz w v f x z gKP gKQ A1 A2 l A3 A4 m W8.drew := Z0.next (Below.refl _ _).drew
 clear S9 KP KQ R1 R2 R3 R4 Z0
 go_wp2_with fail
 go_region_held3 (fun V => (((((V.cell? ⟨w.heap.size, 0, none⟩ = some (.slice v.a1 f.st.length v.c1) ∧ V.cell? ⟨w.heap.size, 1, none⟩ = some (.slice v.a2 f.li.length v.c2)) ∧ (V.cell? ⟨w.heap.size, 2, none⟩ = some (.slice v.a3 f.pa.length v.c3) ∧ (V.cell? ⟨w.heap.size, 3, none⟩ = some (.slice v.a4 f.va.length v.c4) ∧ V.cell? ⟨w.heap.size + 1, 0, none⟩ = some (.int .u8 x.k)))) ∧ ((V.cell? ⟨w.heap.size + 1, 1, none⟩ = some (.int .i64 x.l) ∧ V.cell? ⟨w.heap.size + 1, 2, none⟩ = some (.int .i64 x.o)) ∧ (V.cell? ⟨w.heap.size + 1, 3, none⟩ = some (.int .i64 x.a) ∧ (V.cell? ⟨w.heap.size + 1, 4, none⟩ = some (.int .i64 x.b) ∧ V.cell? ⟨w.heap.size + 1, 5, none⟩ = some (.int .i64 x.s))))) ∧ (((V.cell? ⟨w.heap.size + 1, 6, none⟩ = some (.int .i64 x.e) ∧ V.cell? ⟨w.heap.size + 1, 7, none⟩ = some (.int .i64 x.c.b)) ∧ (V.cell? ⟨w.heap.size + 1, 8, none⟩ = some (.int .i64 x.c.n) ∧ (V.cell? ⟨w.heap.size + 1, 9, none⟩ = some (.int .i64 x.c.l) ∧ V.cell? ⟨w.heap.size + 1, 10, none⟩ = some (.int .i64 x.c.y)))) ∧ ((V.cell? ⟨w.heap.size + 1, 11, none⟩ = some (.int .i64 x.c.w) ∧ (V.cell? ⟨w.heap.size + 1, 12, none⟩ = some (.int .i64 x.c.s) ∧ V.cell? ⟨gKP, 0, none⟩ = some (.int .u8 z.k))) ∧ (V.cell? ⟨gKP, 1, none⟩ = some (.int .i64 z.l) ∧ (V.cell? ⟨gKP, 2, none⟩ = some (.int .i64 z.o) ∧ V.cell? ⟨gKP, 3, none⟩ = some (.int .i64 z.a)))))) ∧ ((((V.cell? ⟨gKP, 4, none⟩ = some (.int .i64 z.b) ∧ V.cell? ⟨gKP, 5, none⟩ = some (.int .i64 z.s)) ∧ (V.cell? ⟨gKP, 6, none⟩ = some (.int .i64 z.e) ∧ (V.cell? ⟨gKP, 7, none⟩ = some (.int .i64 z.c.b) ∧ V.cell? ⟨gKP, 8, none⟩ = some (.int .i64 z.c.n)))) ∧ ((V.cell? ⟨gKP, 9, none⟩ = some (.int .i64 z.c.l) ∧ (V.cell? ⟨gKP, 10, none⟩ = some (.int .i64 z.c.y) ∧ V.cell? ⟨gKP, 11, none⟩ = some (.int .i64 z.c.w))) ∧ (V.cell? ⟨gKP, 12, none⟩ = some (.int .i64 z.c.s) ∧ (V.cell? ⟨gKQ, 0, none⟩ = some (.int .u8 z.k) ∧ V.cell? ⟨gKQ, 1, none⟩ = some (.int .i64 z.l))))) ∧ (((V.cell? ⟨gKQ, 2, none⟩ = some (.int .i64 z.o) ∧ V.cell? ⟨gKQ, 3, none⟩ = some (.int .i64 z.a)) ∧ (V.cell? ⟨gKQ, 4, none⟩ = some (.int .i64 z.b) ∧ (V.cell? ⟨gKQ, 5, none⟩ = some (.int .i64 z.s) ∧ V.cell? ⟨gKQ, 6, none⟩ = some (.int .i64 z.e)))) ∧ ((V.cell? ⟨gKQ, 7, none⟩ = some (.int .i64 z.c.b) ∧ (V.cell? ⟨gKQ, 8, none⟩ = some (.int .i64 z.c.n) ∧ V.cell? ⟨gKQ, 9, none⟩ = some (.int .i64 z.c.l))) ∧ (V.cell? ⟨gKQ, 10, none⟩ = some (.int .i64 z.c.y) ∧ (V.cell? ⟨gKQ, 11, none⟩ = some (.int .i64 z.c.w) ∧ V.cell? ⟨gKQ, 12, none⟩ = some (.int .i64 z.c.s))))))))
  (first
   | ((try dsimp only); first | (with_reducible exact TZ.o _ s5) | (with_reducible exact TZ.o _ s4) | (with_reducible exact TZ.o _ s3) | (with_reducible exact TZ.o _ s2) | (with_reducible exact TZ.o _ s1) | (with_reducible exact TZ.o _ s0)))
  (first
   | (go_at_call 8; refine (SP.o _ s0.lc.e).mono ?_; rintro e v1 ⟨rfl, hb1⟩; have s1 : Lz w v f x z gKP gKQ A1 A2 l A3 A4 m v1 := s0.next hb1)
   | (go_at_call 30; refine (SB.o A1 A2 k1 k2 _ _ s1.r1 s1.r2 HL1.o).mono ?_; rintro e v2 ⟨rfl, hb2⟩; have s2 : Lz w v f x z gKP gKQ A1 A2 l A3 A4 m v2 := s1.next hb2)
   | (go_at_call 19; refine (SI.o A3 A4 k3 k4 _ _ s2.r3 s2.r4 HL2.o).mono ?_; rintro e v3 ⟨rfl, hb3⟩; have s3 : Lz w v f x z gKP gKQ A1 A2 l A3 A4 m v3 := s2.next hb3)
   | (go_at_call 31; first | (refine (CC.o _ s4.lc).mono ?_; rintro e v5 ⟨rfl, hb5⟩; have s5 : Lz w v f x z gKP gKQ A1 A2 l A3 A4 m v5 := s4.next hb5) | (refine (CC.o _ s3.lc).mono ?_; rintro e v4 ⟨rfl, hb4⟩; have s4 : Lz w v f x z gKP gKQ A1 A2 l A3 A4 m v4 := s3.next hb4))
   | (go_at_call 32; first | (refine (QQ.o _ s4.lc).mono ?_; rintro e v5 ⟨rfl, hb5⟩; have s5 : Lz w v f x z gKP gKQ A1 A2 l A3 A4 m v5 := s4.next hb5) | (refine (QQ.o _ s3.lc).mono ?_; rintro e v4 ⟨rfl, hb4⟩; have s4 : Lz w v f x z gKP gKQ A1 A2 l A3 A4 m v4 := s3.next hb4)))
 all_goals
  go_wp2_with fail
  go_ret
  exact ⟨rfl, s5.lc.b⟩

theorem deedCalls_any (v : Fv) (f : Dd.Fd) (x : Dd.Ca) (r : Int) (w : World) (hE : Env w) (hF : FRw w w.heap.size v f) :
  Calls Tryz.prog 5 #[fval v f, caval x, .int .i64 r] w fun e w' => e = .returned (.bool true) ∧ Below w.heap.size w w' := by
 rcases hv : Dd.vastF f with _ | _
 ·exact calls_main v f x r w hE hF hv
 ·exact calls_vast v f x r w hE hF hv

end
end Go.Proofs.YtccikcpcfdjobaaGreatDoor
