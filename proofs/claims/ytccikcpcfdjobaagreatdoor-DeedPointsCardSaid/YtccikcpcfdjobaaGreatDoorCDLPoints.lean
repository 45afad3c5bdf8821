/-
  DeedPoints: the law's walk.
-/
import Derived.Test.YtccikcpcfdjobaaGreatDoorBn43
import Derived.Test.YtccikcpcfdjobaaGreatDoorBn25
import Derived.Test.YtccikcpcfdjobaaGreatDoorBn27
import Derived.Test.YtccikcpcfdjobaaGreatDoorBn22
set_option linter.unusedVariables false
set_option linter.unusedSimpArgs false
namespace Go.Proofs.YtccikcpcfdjobaaGreatDoor
open Go.RowKit
set_option maxRecDepth 100000

theorem Dd.adjA_len (q : Dd.Pa) : ∀ (l : List Dd.Pa) (k : Int), (Dd.adjA q l k).length ≤ l.length
  | [], _ => by simp [Dd.adjA]
  | p :: r, k => by
    have := Dd.adjA_len q r (k + 1)
    rw [Dd.adjA, List.length_append, List.length_cons]
    split <;> simp <;> omega
theorem Dd.adjF_len (f : Dd.Fd) (i : Int) : (Dd.adjF f i).1.length ≤ f.pa.length := by
 unfold Dd.adjF
 split
 ·simp
 ·split
  ·exact Dd.adjA_len _ _ _
  ·simp

structure Lpt (w : World) (v : Fv) (f : Dd.Fd) (A : Option Addr) (y : List Int) (W : World) : Prop where
 b : Below w.heap.size w W
 e : Env W
 kF : Bk W w.heap.size 27 #[.slice v.a1 f.st.length v.c1, .slice v.a2 f.li.length v.c2, .slice v.a3 f.pa.length v.c3, .slice v.a4 f.va.length v.c4]
 r : FRw W w.heap.size v f
 rY : Rd W w.heap.size 1 A y.length (icells y)
section
variable {w W W' : World} {v : Fv} {f : Dd.Fd} {A : Option Addr} {y : List Int}
theorem Lpt.next (h : Lpt w v f A y W) (hb : Below W.heap.size W W') : Lpt w v f A y W' :=
 ⟨h.b.trans (hb.mono h.b.size), h.e.step hb, h.kF.below hb h.kF.lt, h.r.below hb h.b.size, h.rY.below hb h.b.size⟩
theorem Lpt.raw (h : Lpt w v f A y W) : FRw W W.heap.size v f := h.r.more h.b.size
theorem Lpt.rd (h : Lpt w v f A y W) (hv : Dd.vastF f = false) : FRd W W.heap.size v f := h.raw.small hv
theorem Lpt.yy (h : Lpt w v f A y W) : Rd W W.heap.size 1 A y.length (icells y) := h.rY.more h.b.size
theorem Lpt.new (hE : Env w) (hF : FRw w w.heap.size v f) (hY : Rd w w.heap.size 1 A y.length (icells y)) : Lpt w v f A y (w.alloc (.cells #[.slice v.a1 f.st.length v.c1, .slice v.a2 f.li.length v.c2, .slice v.a3 f.pa.length v.c3, .slice v.a4 f.va.length v.c4] 27)) :=
 have hb := (Below.refl w.heap.size w).alloc (Nat.le_refl _) (.cells #[.slice v.a1 f.st.length v.c1, .slice v.a2 f.li.length v.c2, .slice v.a3 f.pa.length v.c3, .slice v.a4 f.va.length v.c4] 27)
 ⟨hb, hE.step hb, Bk.new _ _ _, hF.below hb (Nat.le_refl _), hY.below hb (Nat.le_refl _)⟩
theorem Lpt.cells (h : Lpt w v f A y W) : W.cell? ⟨w.heap.size, 0, none⟩ = some (.slice v.a1 f.st.length v.c1) ∧ W.cell? ⟨w.heap.size, 1, none⟩ = some (.slice v.a2 f.li.length v.c2) ∧
  W.cell? ⟨w.heap.size, 2, none⟩ = some (.slice v.a3 f.pa.length v.c3) ∧ W.cell? ⟨w.heap.size, 3, none⟩ = some (.slice v.a4 f.va.length v.c4) ∧ w.heap.size < W.heap.size :=
 ⟨(h.kF.cell 0).trans rfl, (h.kF.cell 1).trans rfl, (h.kF.cell 2).trans rfl, (h.kF.cell 3).trans rfl, h.kF.lt⟩
end

set_option maxHeartbeats 8000000 in
theorem points_vast (v : Fv) (f : Dd.Fd) (l s p o q : Int) (hp64 : -9223372036854775808 ≤ p ∧ p ≤ 9223372036854775807) (A : Option Addr) (c : Nat) (y : List Int) (hyl : y.length ≤ 9223372036854775807) (w : World) (hE : Env w) (hF : FRw w w.heap.size v f) (hY : Rd w w.heap.size 1 A y.length (icells y)) (hv : Dd.vastF f = true) :
  Calls Tryz.prog 3 #[fval v f, .int .i64 l, .int .i64 s, .int .i64 p, .int .i64 o, .int .i64 q, .slice A y.length c] w fun e w' => e = .returned (.bool true) ∧ Below w.heap.size w w' := by
 have va := fun W (h : Lpt w v f A y W) => vast_any v f W h.raw
 rw [hv] at va
 have SP := Lib.hid (fun W (h : Env W) => spoken_any W h)
 have S0 := Lib.hid (Lpt.new hE hF hY)
 simp only [fval_def] at va S0 ⊢
 have VA := Lib.hid va
 clear hF hv hE va hY hp64
 go_enter Tryz.func3, Tryz.ntmps3
 obtain ⟨f0, f1, f2, f3, fl⟩ := S0.out.cells
 go_wp2_with fail
 refine (VA.out _ S0.out).mono ?_
 rintro e w1 ⟨rfl, hb⟩
 have S1 := Lib.hid (S0.out.next hb)
 clear hb f0 f1 f2 f3 fl S0
 obtain ⟨f0, f1, f2, f3, fl⟩ := S1.out.cells
 go_wp2_with fail
 refine (SP.out _ S1.out.e).mono ?_
 rintro e w2 ⟨rfl, hb⟩
 have S2 := Lib.hid (S1.out.next hb)
 clear hb f0 f1 f2 f3 fl S1
 obtain ⟨f0, f1, f2, f3, fl⟩ := S2.out.cells
 go_wp2_with fail
 go_ret
 exact ⟨rfl, S2.out.b⟩

set_option maxHeartbeats 8000000 in
theorem points_long (v : Fv) (f : Dd.Fd) (l s p o q : Int) (hp64 : -9223372036854775808 ≤ p ∧ p ≤ 9223372036854775807) (A : Option Addr) (c : Nat) (y : List Int) (hyl : y.length ≤ 9223372036854775807) (w : World) (hE : Env w) (hF : FRw w w.heap.size v f) (hY : Rd w w.heap.size 1 A y.length (icells y)) (hv : Dd.vastF f = false) (hlong : 130 < y.length) :
  Calls Tryz.prog 3 #[fval v f, .int .i64 l, .int .i64 s, .int .i64 p, .int .i64 o, .int .i64 q, .slice A y.length c] w fun e w' => e = .returned (.bool true) ∧ Below w.heap.size w w' := by
 have va := fun W (h : Lpt w v f A y W) => vast_any v f W h.raw
 rw [hv] at va
 have SP := Lib.hid (fun W (h : Env W) => spoken_any W h)
 have S0 := Lib.hid (Lpt.new hE hF hY)
 have d1 : decide ((y.length : Int) > 130) = true := decide_eq_true (by omega)
 simp only [fval_def] at va S0 ⊢
 have VA := Lib.hid va
 clear hF hv hE va hY hp64 hlong
 go_enter Tryz.func3, Tryz.ntmps3
 obtain ⟨f0, f1, f2, f3, fl⟩ := S0.out.cells
 go_wp2_with fail
 refine (VA.out _ S0.out).mono ?_
 rintro e w1 ⟨rfl, hb⟩
 have S1 := Lib.hid (S0.out.next hb)
 clear hb f0 f1 f2 f3 fl S0
 obtain ⟨f0, f1, f2, f3, fl⟩ := S1.out.cells
 go_wp2_with fail
 refine (SP.out _ S1.out.e).mono ?_
 rintro e w2 ⟨rfl, hb⟩
 have S2 := Lib.hid (S1.out.next hb)
 clear hb f0 f1 f2 f3 fl S1
 obtain ⟨f0, f1, f2, f3, fl⟩ := S2.out.cells
 go_wp2_with fail
 go_ret
 exact ⟨rfl, S2.out.b⟩

set_option maxHeartbeats 8000000 in
theorem points_main (v : Fv) (f : Dd.Fd) (l s p o q : Int) (hp64 : -9223372036854775808 ≤ p ∧ p ≤ 9223372036854775807) (A : Option Addr) (c : Nat) (y : List Int) (hyl : y.length ≤ 9223372036854775807) (w : World) (hE : Env w) (hF : FRw w w.heap.size v f) (hY : Rd w w.heap.size 1 A y.length (icells y)) (hv : Dd.vastF f = false) (hshort : y.length ≤ 130) :
  Calls Tryz.prog 3 #[fval v f, .int .i64 l, .int .i64 s, .int .i64 p, .int .i64 o, .int .i64 q, .slice A y.length c] w fun e w' => e = .returned (.bool true) ∧ Below w.heap.size w w' := by
 have va := fun W (h : Lpt w v f A y W) => vast_any v f W h.raw
 rw [hv] at va
 have po := fun W (h : Lpt w v f A y W) => Point_any v f l s W (h.rd hv)
 have qo := fun W (h : Lpt w v f A y W) => qPointF_any v f l s W (h.rd hv)
 have co := fun W (h : Lpt w v f A y W) => Corner_any v f p hp64 W (h.rd hv)
 have qc := fun W (h : Lpt w v f A y W) => qCornerF_any v f p W (h.rd hv)
 have ad := fun W (h : Lpt w v f A y W) => Adjoining_any v f q W (h.rd hv)
 have qa := fun W (h : Lpt w v f A y W) => qAdjF_any v f q W (h.rd hv)
 have dr := fun W (h : Lpt w v f A y W) => Drawn_any v f A c y W (h.rd hv) h.yy (by omega)
 have qd := fun W (h : Lpt w v f A y W) => qDrawnF_any v f A c y W (h.rd hv) h.yy (by omega)
 have at1 := fun W (h : Lpt w v f A y W) => At_any v f A c y s o W (h.rd hv) h.yy (by omega)
 have qt := fun W (h : Lpt w v f A y W) => qAt_any v f s o A c y W (h.rd hv) h.yy (by omega)
 have hln : (Dd.adjF f q).1.length ≤ 1000000 := Nat.le_trans (Dd.adjF_len f q) (hF.small hv).l3
 obtain ⟨P1, hP1⟩ : ∃ z, (Dd.pointF f l s).1 = z := ⟨_, rfl⟩
 rw [hP1] at po qo
 obtain ⟨P2, hP2⟩ : ∃ z, (Dd.pointF f l s).2 = z := ⟨_, rfl⟩
 rw [hP2] at po qo
 obtain ⟨C1, hC1⟩ : ∃ z, (Dd.cornerF f p).1 = z := ⟨_, rfl⟩
 rw [hC1] at co qc
 obtain ⟨C2, hC2⟩ : ∃ z, (Dd.cornerF f p).2.1 = z := ⟨_, rfl⟩
 rw [hC2] at co qc
 obtain ⟨C3, hC3⟩ : ∃ z, (Dd.cornerF f p).2.2 = z := ⟨_, rfl⟩
 rw [hC3] at co qc
 obtain ⟨L, hL⟩ : ∃ z, (Dd.adjF f q).1 = z := ⟨_, rfl⟩
 rw [hL] at ad qa hln
 obtain ⟨L2, hL2⟩ : ∃ z, (Dd.adjF f q).2 = z := ⟨_, rfl⟩
 rw [hL2] at ad qa
 obtain ⟨D1, hD1⟩ : ∃ z, (Dd.drawnF f y).1 = z := ⟨_, rfl⟩
 rw [hD1] at dr qd
 obtain ⟨D2, hD2⟩ : ∃ z, (Dd.drawnF f y).2 = z := ⟨_, rfl⟩
 rw [hD2] at dr qd
 obtain ⟨T1, hT1⟩ : ∃ z, (Dd.atF f s o y).1 = z := ⟨_, rfl⟩
 rw [hT1] at at1 qt
 obtain ⟨T2, hT2⟩ : ∃ z, (Dd.atF f s o y).2 = z := ⟨_, rfl⟩
 rw [hT2] at at1 qt
 have SP := Lib.hid (fun W (h : Env W) => spoken_any W h)
 have SI := Lib.hid (fun A1 A2 c1 c2 (ys : List Int) W h1 h2 hl => qSameInts_same A1 A2 c1 c2 ys W h1 h2 hl)
 have S0 := Lib.hid (Lpt.new hE hF hY)
 have d1 : decide ((y.length : Int) > 130) = false := decide_eq_false (by omega)
 simp only [fval_def] at va po qo co qc ad qa dr qd at1 qt S0 ⊢
 have VA := Lib.hid va
 have PO := Lib.hid po
 have QO := Lib.hid qo
 have CO := Lib.hid co
 have QC := Lib.hid qc
 have AD := Lib.hid ad
 have QA := Lib.hid qa
 have DR := Lib.hid dr
 have QD := Lib.hid qd
 have AT1 := Lib.hid at1
 have QT := Lib.hid qt
 clear hF hv hE hY hp64 va po qo co qc ad qa dr qd at1 qt hP1 hP2 hC1 hC2 hC3 hL hL2 hD1 hD2 hT1 hT2
 go_enter Tryz.func3, Tryz.ntmps3
 obtain ⟨f0, f1, f2, f3, fl⟩ := S0.out.cells
 go_wp2_with fail
 refine (VA.out _ S0.out).mono ?_
 rintro e w1 ⟨rfl, hb⟩
 have S1 := Lib.hid (S0.out.next hb)
 clear hb f0 f1 f2 f3 fl S0
 obtain ⟨f0, f1, f2, f3, fl⟩ := S1.out.cells
 go_wp2_with fail
 refine (PO.out _ S1.out).mono ?_
 rintro e w2 ⟨rfl, hb⟩
 have S2 := Lib.hid (S1.out.next hb)
 clear hb f0 f1 f2 f3 fl S1
 obtain ⟨f0, f1, f2, f3, fl⟩ := S2.out.cells
 go_wp2_with fail
 refine (QO.out _ S2.out).mono ?_
 rintro e w3 ⟨rfl, hb⟩
 have S3 := Lib.hid (S2.out.next hb)
 clear hb f0 f1 f2 f3 fl S2
 obtain ⟨f0, f1, f2, f3, fl⟩ := S3.out.cells
 go_wp2_with fail
 refine (CO.out _ S3.out).mono ?_
 rintro e w4 ⟨rfl, hb⟩
 have S4 := Lib.hid (S3.out.next hb)
 clear hb f0 f1 f2 f3 fl S3
 obtain ⟨f0, f1, f2, f3, fl⟩ := S4.out.cells
 go_wp2_with fail
 refine (QC.out _ S4.out).mono ?_
 rintro e w5 ⟨rfl, hb⟩
 have S5 := Lib.hid (S4.out.next hb)
 clear hb f0 f1 f2 f3 fl S4
 obtain ⟨f0, f1, f2, f3, fl⟩ := S5.out.cells
 go_wp2_with fail
 refine (AD.out _ S5.out).mono ?_
 rintro e w6 ⟨A1, k1, rfl, hrd, -, hb⟩
 have S6 := Lib.hid (S5.out.next hb)
 have R1 := Lib.hid hrd
 clear hrd
 clear hb f0 f1 f2 f3 fl S5
 obtain ⟨f0, f1, f2, f3, fl⟩ := S6.out.cells
 go_wp2_with fail
 refine (QA.out _ S6.out).mono ?_
 rintro e w7 ⟨A2, k2, rfl, hrd, hb⟩
 have S7 := Lib.hid (S6.out.next hb)
 have R1N := Lib.hid ((R1.out.below hb (Nat.le_refl _)).more hb.size)
 clear R1
 have R1 := R1N
 clear R1N
 have R2 := Lib.hid hrd
 clear hrd
 clear hb f0 f1 f2 f3 fl S6
 obtain ⟨f0, f1, f2, f3, fl⟩ := S7.out.cells
 go_wp2_with fail
 refine (DR.out _ S7.out).mono ?_
 rintro e w8 ⟨rfl, hb⟩
 have S8 := Lib.hid (S7.out.next hb)
 have R1N := Lib.hid ((R1.out.below hb (Nat.le_refl _)).more hb.size)
 clear R1
 have R1 := R1N
 clear R1N
 have R2N := Lib.hid ((R2.out.below hb (Nat.le_refl _)).more hb.size)
 clear R2
 have R2 := R2N
 clear R2N
 clear hb f0 f1 f2 f3 fl S7
 obtain ⟨f0, f1, f2, f3, fl⟩ := S8.out.cells
 go_wp2_with fail
 refine (QD.out _ S8.out).mono ?_
 rintro e w9 ⟨rfl, hb⟩
 have S9 := Lib.hid (S8.out.next hb)
 have R1N := Lib.hid ((R1.out.below hb (Nat.le_refl _)).more hb.size)
 clear R1
 have R1 := R1N
 clear R1N
 have R2N := Lib.hid ((R2.out.below hb (Nat.le_refl _)).more hb.size)
 clear R2
 have R2 := R2N
 clear R2N
 clear hb f0 f1 f2 f3 fl S8
 obtain ⟨f0, f1, f2, f3, fl⟩ := S9.out.cells
 go_wp2_with fail
 refine (AT1.out _ S9.out).mono ?_
 rintro e w10 ⟨rfl, hb⟩
 have S10 := Lib.hid (S9.out.next hb)
 have R1N := Lib.hid ((R1.out.below hb (Nat.le_refl _)).more hb.size)
 clear R1
 have R1 := R1N
 clear R1N
 have R2N := Lib.hid ((R2.out.below hb (Nat.le_refl _)).more hb.size)
 clear R2
 have R2 := R2N
 clear R2N
 clear hb f0 f1 f2 f3 fl S9
 obtain ⟨f0, f1, f2, f3, fl⟩ := S10.out.cells
 go_wp2_with fail
 refine (QT.out _ S10.out).mono ?_
 rintro e w11 ⟨rfl, hb⟩
 have S11 := Lib.hid (S10.out.next hb)
 have R1N := Lib.hid ((R1.out.below hb (Nat.le_refl _)).more hb.size)
 clear R1
 have R1 := R1N
 clear R1N
 have R2N := Lib.hid ((R2.out.below hb (Nat.le_refl _)).more hb.size)
 clear R2
 have R2 := R2N
 clear R2N
 clear hb f0 f1 f2 f3 fl S10
 obtain ⟨f0, f1, f2, f3, fl⟩ := S11.out.cells
 go_wp2_with fail
 refine (SP.out _ S11.out.e).mono ?_
 rintro e w12 ⟨rfl, hb⟩
 have S12 := Lib.hid (S11.out.next hb)
 have R1N := Lib.hid ((R1.out.below hb (Nat.le_refl _)).more hb.size)
 clear R1
 have R1 := R1N
 clear R1N
 have R2N := Lib.hid ((R2.out.below hb (Nat.le_refl _)).more hb.size)
 clear R2
 have R2 := R2N
 clear R2N
 clear hb f0 f1 f2 f3 fl S11
 obtain ⟨f0, f1, f2, f3, fl⟩ := S12.out.cells
 go_wp2_with fail
 refine (SI.out A1 A2 k1 k2 _ _ R1.out R2.out hln).mono ?_
 rintro e w13 ⟨rfl, hb⟩
 have S13 := Lib.hid (S12.out.next hb)
 have R1N := Lib.hid ((R1.out.below hb (Nat.le_refl _)).more hb.size)
 clear R1
 have R1 := R1N
 clear R1N
 have R2N := Lib.hid ((R2.out.below hb (Nat.le_refl _)).more hb.size)
 clear R2
 have R2 := R2N
 clear R2N
 clear hb f0 f1 f2 f3 fl S12
 obtain ⟨f0, f1, f2, f3, fl⟩ := S13.out.cells
 go_wp2_with fail
 go_ret
 exact ⟨rfl, S13.out.b⟩

theorem deedPoints_any (v : Fv) (f : Dd.Fd) (l s p o q : Int) (hp64 : -9223372036854775808 ≤ p ∧ p ≤ 9223372036854775807) (A : Option Addr) (c : Nat) (y : List Int) (hyl : y.length ≤ 9223372036854775807) (w : World) (hE : Env w) (hF : FRw w w.heap.size v f) (hY : Rd w w.heap.size 1 A y.length (icells y)) :
  Calls Tryz.prog 3 #[fval v f, .int .i64 l, .int .i64 s, .int .i64 p, .int .i64 o, .int .i64 q, .slice A y.length c] w fun e w' => e = .returned (.bool true) ∧ Below w.heap.size w w' := by
 rcases hv : Dd.vastF f with _ | _
 ·by_cases hs : 130 < y.length
  ·exact points_long v f l s p o q hp64 A c y hyl w hE hF hY hv hs
  ·exact points_main v f l s p o q hp64 A c y hyl w hE hF hY hv (by omega)
 ·exact points_vast v f l s p o q hp64 A c y hyl w hE hF hY hv

end Go.Proofs.YtccikcpcfdjobaaGreatDoor
