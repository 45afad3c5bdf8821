/-
  What the claims of layer deed need of the texts DChf.
-/
import Derived.Test.YtccikcpcfdjobaaGreatDoorBr14
import Derived.Test.YtccikcpcfdjobaaGreatDoorBz
set_option linter.unusedVariables false
set_option linter.unusedSimpArgs false
set_option maxHeartbeats 8000000
set_option maxRecDepth 100000
namespace Go.Proofs.YtccikcpcfdjobaaGreatDoor
section
open Go.RowKit
structure Fs (w : World) (g : Nat) (v : Fv) (f : Dd.Fd) (W : World) : Prop where
 b : Below w.heap.size w W
 k : Bk W g 27 #[.slice v.a1 f.st.length v.c1, .slice v.a2 f.li.length v.c2, .slice v.a3 f.pa.length v.c3, .slice v.a4 f.va.length v.c4]
 r : FRd W w.heap.size v f
theorem Fs.next {w : World} {g : Nat} {v : Fv} {f : Dd.Fd} {W W' : World} (h : Fs w g v f W) (hb : Below W.heap.size W W') : Fs w g v f W' :=
 ⟨h.b.trans (hb.mono h.b.size), h.k.below hb h.k.lt, h.r.below hb h.b.size⟩
theorem Fs.rd {w : World} {g : Nat} {v : Fv} {f : Dd.Fd} {W : World} (h : Fs w g v f W) : FRd W W.heap.size v f := h.r.more h.b.size
theorem Fs.cells {w : World} {g : Nat} {v : Fv} {f : Dd.Fd} {W : World} (h : Fs w g v f W) : W.cell? ⟨g, 0, none⟩ = some (.slice v.a1 f.st.length v.c1) ∧ W.cell? ⟨g, 1, none⟩ = some (.slice v.a2 f.li.length v.c2) ∧
  W.cell? ⟨g, 2, none⟩ = some (.slice v.a3 f.pa.length v.c3) ∧ W.cell? ⟨g, 3, none⟩ = some (.slice v.a4 f.va.length v.c4) ∧ g < W.heap.size :=
 ⟨(h.k.cell 0).trans rfl, (h.k.cell 1).trans rfl, (h.k.cell 2).trans rfl, (h.k.cell 3).trans rfl, h.k.lt⟩
theorem Fs.new {w : World} {v : Fv} {f : Dd.Fd} (h : FRd w w.heap.size v f) : Fs w w.heap.size v f (w.alloc (.cells #[.slice v.a1 f.st.length v.c1, .slice v.a2 f.li.length v.c2, .slice v.a3 f.pa.length v.c3, .slice v.a4 f.va.length v.c4] 27)) :=
 have hb := (Below.refl w.heap.size w).alloc (Nat.le_refl _) (.cells #[.slice v.a1 f.st.length v.c1, .slice v.a2 f.li.length v.c2, .slice v.a3 f.pa.length v.c3, .slice v.a4 f.va.length v.c4] 27)
 ⟨hb, Bk.new _ _ _, h.below hb (Nat.le_refl _)⟩
set_option maxHeartbeats 16000000 in
theorem checkField_any (v : Fv) (f : Dd.Fd) (w : World) (hF : FRd w w.heap.size v f) :
  Calls Tryz.prog 35 #[fval v f] w fun e w' => e = .returned (.int .i64 (Dd.fieldE f)) ∧ Below w.heap.size w w' := by
 have hfe : Dd.fieldE f = if 12 < f.st.length ∨ 10 < f.li.length ∨ 40 < f.pa.length then 2 else if f.st.length < 2 ∨ f.li.length = 0 then 5 else if Cs.varsE f.va ≠ 0 then Cs.varsE f.va
   else if Dd.namesF f = false then 4 else if Dd.distF f = false then 6 else if Dd.rangeF f = false then 1 else if Dd.orderF f = false then 30 else 0 := rfl
 have hnf : Dd.namesF f = ((f.st.map (·.1)).all Dd.nameF && f.li.all Dd.nameF && (f.pa.map (·.name)).all Dd.nameF) := rfl
 have hdf : Dd.distF f = (Dd.dist (f.st.map (·.1)) && Dd.dist f.li && Dd.dist (f.pa.map (·.name))) := rfl
 have hl1 := hF.l1
 have hl2 := hF.l2
 have hl3 := hF.l3
 have hl4 := hF.l4
 have S0 := jQ (Fs.new hF)
 have B0 := jQ (fun W (h : Fs w w.heap.size v f W) => checkVariations_any v.a4 v.c4 f.va W h.rd.va hl4)
 have B1 := jQ (fun W (h : Fs w w.heap.size v f W) => allSt_any v.a1 v.c1 f.st W h.rd.st hl1 h.r.n1)
 have B2 := jQ (fun W (h : Fs w w.heap.size v f W) => allTx_any v.a2 v.c2 f.li W h.rd.li hl2 h.r.n2)
 have B3 := jQ (fun W (h : Fs w w.heap.size v f W) => allPa_any v.a3 v.c3 f.pa W h.rd.pa hl3 h.r.n3)
 have B4 := jQ (fun W (h : Fs w w.heap.size v f W) => distSt_any v.a1 v.c1 f.st W h.rd.st hl1 h.r.k1)
 have B5 := jQ (fun W (h : Fs w w.heap.size v f W) => distTx_any v.a2 v.c2 f.li W h.rd.li hl2 h.r.k2)
 have B6 := jQ (fun W (h : Fs w w.heap.size v f W) => distPa_any v.a3 v.c3 f.pa W h.rd.pa hl3 h.r.k3)
 have hfv : fval v f = .agg #[.slice v.a1 f.st.length v.c1, .slice v.a2 f.li.length v.c2, .slice v.a3 f.pa.length v.c3, .slice v.a4 f.va.length v.c4] := rfl
 have B7 := jQ (fun W (h : Fs w w.heap.size v f W) => inRange_any v f W h.rd)
 have B8 := jQ (fun (h2 : 2 ≤ f.st.length) W (h : Fs w w.heap.size v f W) => inOrder_any v f W h.rd h2)
 rw [hfv] at B7 B8 ⊢
 clear hF hfv
 obtain ⟨E, hE⟩ : ∃ E, Dd.fieldE f = E := ⟨_, rfl⟩
 rw [hE] at hfe ⊢
 obtain ⟨z1, hz1⟩ : ∃ z, (f.st.map (·.1)).all Dd.nameF = z := ⟨_, rfl⟩
 obtain ⟨z2, hz2⟩ : ∃ z, f.li.all Dd.nameF = z := ⟨_, rfl⟩
 obtain ⟨z3, hz3⟩ : ∃ z, (f.pa.map (·.name)).all Dd.nameF = z := ⟨_, rfl⟩
 obtain ⟨z4, hz4⟩ : ∃ z, Dd.dist (f.st.map (·.1)) = z := ⟨_, rfl⟩
 obtain ⟨z5, hz5⟩ : ∃ z, Dd.dist f.li = z := ⟨_, rfl⟩
 obtain ⟨z6, hz6⟩ : ∃ z, Dd.dist (f.pa.map (·.name)) = z := ⟨_, rfl⟩
 obtain ⟨z7, hz7⟩ : ∃ z, Dd.rangeF f = z := ⟨_, rfl⟩
 obtain ⟨z8, hz8⟩ : ∃ z, Dd.orderF f = z := ⟨_, rfl⟩
 obtain ⟨ev, hev⟩ : ∃ z, Cs.varsE f.va = z := ⟨_, rfl⟩
 rw [hz1, hz2, hz3] at hnf
 rw [hz4, hz5, hz6] at hdf
 rw [hnf, hdf, hz7, hz8, hev] at hfe
 rw [hev] at B0
 rw [hz1] at B1
 rw [hz2] at B2
 rw [hz3] at B3
 rw [hz4] at B4
 rw [hz5] at B5
 rw [hz6] at B6
 rw [hz7] at B7
 rw [hz8] at B8
 clear hE hz1 hz2 hz3 hz4 hz5 hz6 hz7 hz8 hev hnf hdf hl1 hl2 hl3 hl4
 rcases d1 : decide (12 < (f.st.length : Int)) with _ | _
 case true =>
  have HE := jQ (show E = 2 by rw [hfe, if_pos (.inl (by have := of_decide_eq_true d1; omega))])
  clear hfe
  obtain ⟨c0, c1, c2, c3, lg⟩ := S0.o.cells
  go_enter Tryz.func35, Tryz.ntmps35
  go_wp2_with fail
  go_ret
  exact ⟨ret_int HE.o.symm, S0.o.b⟩
 rcases d2 : decide (10 < (f.li.length : Int)) with _ | _
 case true =>
  have HE := jQ (show E = 2 by rw [hfe, if_pos (.inr (.inl (by have := of_decide_eq_true d2; omega)))])
  clear hfe
  obtain ⟨c0, c1, c2, c3, lg⟩ := S0.o.cells
  go_enter Tryz.func35, Tryz.ntmps35
  go_wp2_with fail
  go_ret
  exact ⟨ret_int HE.o.symm, S0.o.b⟩
 rcases d3 : decide (40 < (f.pa.length : Int)) with _ | _
 case true =>
  have HE := jQ (show E = 2 by rw [hfe, if_pos (.inr (.inr (by have := of_decide_eq_true d3; omega)))])
  clear hfe
  obtain ⟨c0, c1, c2, c3, lg⟩ := S0.o.cells
  go_enter Tryz.func35, Tryz.ntmps35
  go_wp2_with fail
  go_ret
  exact ⟨ret_int HE.o.symm, S0.o.b⟩
 rw [if_neg (by have := of_decide_eq_false d1; have := of_decide_eq_false d2; have := of_decide_eq_false d3; omega)] at hfe
 rcases d4 : decide ((f.st.length : Int) < 2) with _ | _
 case true =>
  have HE := jQ (show E = 5 by rw [hfe, if_pos (.inl (by have := of_decide_eq_true d4; omega))])
  clear hfe
  obtain ⟨c0, c1, c2, c3, lg⟩ := S0.o.cells
  go_enter Tryz.func35, Tryz.ntmps35
  go_wp2_with fail
  go_ret
  exact ⟨ret_int HE.o.symm, S0.o.b⟩
 rcases d5 : ((f.li.length : Int) == 0) with _ | _
 case true =>
  have HE := jQ (show E = 5 by rw [hfe, if_pos (.inr (by have := beq_iff_eq.1 d5; omega))])
  clear hfe
  obtain ⟨c0, c1, c2, c3, lg⟩ := S0.o.cells
  go_enter Tryz.func35, Tryz.ntmps35
  go_wp2_with fail
  go_ret
  exact ⟨ret_int HE.o.symm, S0.o.b⟩
 rw [if_neg (by have := of_decide_eq_false d4; have := beq_eq_false_iff_ne.1 d5; omega)] at hfe
 have h2 : 2 ≤ f.st.length := by have := of_decide_eq_false d4; omega
 by_cases hev : ev = 0
 case neg =>
  have d6 : (ev != 0) = true := by simp [hev]
  have HE := jQ (show E = ev by rw [hfe, if_pos hev])
  clear hfe
  obtain ⟨c0, c1, c2, c3, lg⟩ := S0.o.cells
  go_enter Tryz.func35, Tryz.ntmps35
  go_wp2_with fail
  refine (B0.o _ S0.o).mono ?_
  rintro e w1 ⟨rfl, hb⟩
  have S1 := jQ (S0.o.next hb)
  clear hb c0 c1 c2 c3 lg
  obtain ⟨c0, c1, c2, c3, lg⟩ := S1.o.cells
  go_wp2_with fail
  go_ret
  exact ⟨ret_int HE.o.symm, S1.o.b⟩
 subst hev
 rw [if_neg (by simp)] at hfe
 cases z1
 case false =>
  have HE := jQ (show E = 4 by rw [hfe]; simp)
  clear hfe
  obtain ⟨c0, c1, c2, c3, lg⟩ := S0.o.cells
  go_enter Tryz.func35, Tryz.ntmps35
  go_wp2_with fail
  refine (B0.o _ S0.o).mono ?_
  rintro e w1 ⟨rfl, hb⟩
  have S1 := jQ (S0.o.next hb)
  clear hb c0 c1 c2 c3 lg
  obtain ⟨c0, c1, c2, c3, lg⟩ := S1.o.cells
  go_wp2_with fail
  refine (B1.o _ S1.o).mono ?_
  rintro e w2 ⟨rfl, hb⟩
  have S2 := jQ (S1.o.next hb)
  clear hb c0 c1 c2 c3 lg
  obtain ⟨c0, c1, c2, c3, lg⟩ := S2.o.cells
  go_wp2_with fail
  go_ret
  exact ⟨ret_int HE.o.symm, S2.o.b⟩
 cases z2
 case false =>
  have HE := jQ (show E = 4 by rw [hfe]; simp)
  clear hfe
  obtain ⟨c0, c1, c2, c3, lg⟩ := S0.o.cells
  go_enter Tryz.func35, Tryz.ntmps35
  go_wp2_with fail
  refine (B0.o _ S0.o).mono ?_
  rintro e w1 ⟨rfl, hb⟩
  have S1 := jQ (S0.o.next hb)
  clear hb c0 c1 c2 c3 lg
  obtain ⟨c0, c1, c2, c3, lg⟩ := S1.o.cells
  go_wp2_with fail
  refine (B1.o _ S1.o).mono ?_
  rintro e w2 ⟨rfl, hb⟩
  have S2 := jQ (S1.o.next hb)
  clear hb c0 c1 c2 c3 lg
  obtain ⟨c0, c1, c2, c3, lg⟩ := S2.o.cells
  go_wp2_with fail
  refine (B2.o _ S2.o).mono ?_
  rintro e w3 ⟨rfl, hb⟩
  have S3 := jQ (S2.o.next hb)
  clear hb c0 c1 c2 c3 lg
  obtain ⟨c0, c1, c2, c3, lg⟩ := S3.o.cells
  go_wp2_with fail
  go_ret
  exact ⟨ret_int HE.o.symm, S3.o.b⟩
 cases z3
 case false =>
  have HE := jQ (show E = 4 by rw [hfe]; simp)
  clear hfe
  obtain ⟨c0, c1, c2, c3, lg⟩ := S0.o.cells
  go_enter Tryz.func35, Tryz.ntmps35
  go_wp2_with fail
  refine (B0.o _ S0.o).mono ?_
  rintro e w1 ⟨rfl, hb⟩
  have S1 := jQ (S0.o.next hb)
  clear hb c0 c1 c2 c3 lg
  obtain ⟨c0, c1, c2, c3, lg⟩ := S1.o.cells
  go_wp2_with fail
  refine (B1.o _ S1.o).mono ?_
  rintro e w2 ⟨rfl, hb⟩
  have S2 := jQ (S1.o.next hb)
  clear hb c0 c1 c2 c3 lg
  obtain ⟨c0, c1, c2, c3, lg⟩ := S2.o.cells
  go_wp2_with fail
  refine (B2.o _ S2.o).mono ?_
  rintro e w3 ⟨rfl, hb⟩
  have S3 := jQ (S2.o.next hb)
  clear hb c0 c1 c2 c3 lg
  obtain ⟨c0, c1, c2, c3, lg⟩ := S3.o.cells
  go_wp2_with fail
  refine (B3.o _ S3.o).mono ?_
  rintro e w4 ⟨rfl, hb⟩
  have S4 := jQ (S3.o.next hb)
  clear hb c0 c1 c2 c3 lg
  obtain ⟨c0, c1, c2, c3, lg⟩ := S4.o.cells
  go_wp2_with fail
  go_ret
  exact ⟨ret_int HE.o.symm, S4.o.b⟩
 rw [if_neg (by simp)] at hfe
 cases z4
 case false =>
  have HE := jQ (show E = 6 by rw [hfe]; simp)
  clear hfe
  obtain ⟨c0, c1, c2, c3, lg⟩ := S0.o.cells
  go_enter Tryz.func35, Tryz.ntmps35
  go_wp2_with fail
  refine (B0.o _ S0.o).mono ?_
  rintro e w1 ⟨rfl, hb⟩
  have S1 := jQ (S0.o.next hb)
  clear hb c0 c1 c2 c3 lg
  obtain ⟨c0, c1, c2, c3, lg⟩ := S1.o.cells
  go_wp2_with fail
  refine (B1.o _ S1.o).mono ?_
  rintro e w2 ⟨rfl, hb⟩
  have S2 := jQ (S1.o.next hb)
  clear hb c0 c1 c2 c3 lg
  obtain ⟨c0, c1, c2, c3, lg⟩ := S2.o.cells
  go_wp2_with fail
  refine (B2.o _ S2.o).mono ?_
  rintro e w3 ⟨rfl, hb⟩
  have S3 := jQ (S2.o.next hb)
  clear hb c0 c1 c2 c3 lg
  obtain ⟨c0, c1, c2, c3, lg⟩ := S3.o.cells
  go_wp2_with fail
  refine (B3.o _ S3.o).mono ?_
  rintro e w4 ⟨rfl, hb⟩
  have S4 := jQ (S3.o.next hb)
  clear hb c0 c1 c2 c3 lg
  obtain ⟨c0, c1, c2, c3, lg⟩ := S4.o.cells
  go_wp2_with fail
  refine (B4.o _ S4.o).mono ?_
  rintro e w5 ⟨rfl, hb⟩
  have S5 := jQ (S4.o.next hb)
  clear hb c0 c1 c2 c3 lg
  obtain ⟨c0, c1, c2, c3, lg⟩ := S5.o.cells
  go_wp2_with fail
  go_ret
  exact ⟨ret_int HE.o.symm, S5.o.b⟩
 cases z5
 case false =>
  have HE := jQ (show E = 6 by rw [hfe]; simp)
  clear hfe
  obtain ⟨c0, c1, c2, c3, lg⟩ := S0.o.cells
  go_enter Tryz.func35, Tryz.ntmps35
  go_wp2_with fail
  refine (B0.o _ S0.o).mono ?_
  rintro e w1 ⟨rfl, hb⟩
  have S1 := jQ (S0.o.next hb)
  clear hb c0 c1 c2 c3 lg
  obtain ⟨c0, c1, c2, c3, lg⟩ := S1.o.cells
  go_wp2_with fail
  refine (B1.o _ S1.o).mono ?_
  rintro e w2 ⟨rfl, hb⟩
  have S2 := jQ (S1.o.next hb)
  clear hb c0 c1 c2 c3 lg
  obtain ⟨c0, c1, c2, c3, lg⟩ := S2.o.cells
  go_wp2_with fail
  refine (B2.o _ S2.o).mono ?_
  rintro e w3 ⟨rfl, hb⟩
  have S3 := jQ (S2.o.next hb)
  clear hb c0 c1 c2 c3 lg
  obtain ⟨c0, c1, c2, c3, lg⟩ := S3.o.cells
  go_wp2_with fail
  refine (B3.o _ S3.o).mono ?_
  rintro e w4 ⟨rfl, hb⟩
  have S4 := jQ (S3.o.next hb)
  clear hb c0 c1 c2 c3 lg
  obtain ⟨c0, c1, c2, c3, lg⟩ := S4.o.cells
  go_wp2_with fail
  refine (B4.o _ S4.o).mono ?_
  rintro e w5 ⟨rfl, hb⟩
  have S5 := jQ (S4.o.next hb)
  clear hb c0 c1 c2 c3 lg
  obtain ⟨c0, c1, c2, c3, lg⟩ := S5.o.cells
  go_wp2_with fail
  refine (B5.o _ S5.o).mono ?_
  rintro e w6 ⟨rfl, hb⟩
  have S6 := jQ (S5.o.next hb)
  clear hb c0 c1 c2 c3 lg
  obtain ⟨c0, c1, c2, c3, lg⟩ := S6.o.cells
  go_wp2_with fail
  go_ret
  exact ⟨ret_int HE.o.symm, S6.o.b⟩
 cases z6
 case false =>
  have HE := jQ (show E = 6 by rw [hfe]; simp)
  clear hfe
  obtain ⟨c0, c1, c2, c3, lg⟩ := S0.o.cells
  go_enter Tryz.func35, Tryz.ntmps35
  go_wp2_with fail
  refine (B0.o _ S0.o).mono ?_
  rintro e w1 ⟨rfl, hb⟩
  have S1 := jQ (S0.o.next hb)
  clear hb c0 c1 c2 c3 lg
  obtain ⟨c0, c1, c2, c3, lg⟩ := S1.o.cells
  go_wp2_with fail
  refine (B1.o _ S1.o).mono ?_
  rintro e w2 ⟨rfl, hb⟩
  have S2 := jQ (S1.o.next hb)
  clear hb c0 c1 c2 c3 lg
  obtain ⟨c0, c1, c2, c3, lg⟩ := S2.o.cells
  go_wp2_with fail
  refine (B2.o _ S2.o).mono ?_
  rintro e w3 ⟨rfl, hb⟩
  have S3 := jQ (S2.o.next hb)
  clear hb c0 c1 c2 c3 lg
  obtain ⟨c0, c1, c2, c3, lg⟩ := S3.o.cells
  go_wp2_with fail
  refine (B3.o _ S3.o).mono ?_
  rintro e w4 ⟨rfl, hb⟩
  have S4 := jQ (S3.o.next hb)
  clear hb c0 c1 c2 c3 lg
  obtain ⟨c0, c1, c2, c3, lg⟩ := S4.o.cells
  go_wp2_with fail
  refine (B4.o _ S4.o).mono ?_
  rintro e w5 ⟨rfl, hb⟩
  have S5 := jQ (S4.o.next hb)
  clear hb c0 c1 c2 c3 lg
  obtain ⟨c0, c1, c2, c3, lg⟩ := S5.o.cells
  go_wp2_with fail
  refine (B5.o _ S5.o).mono ?_
  rintro e w6 ⟨rfl, hb⟩
  have S6 := jQ (S5.o.next hb)
  clear hb c0 c1 c2 c3 lg
  obtain ⟨c0, c1, c2, c3, lg⟩ := S6.o.cells
  go_wp2_with fail
  refine (B6.o _ S6.o).mono ?_
  rintro e w7 ⟨rfl, hb⟩
  have S7 := jQ (S6.o.next hb)
  clear hb c0 c1 c2 c3 lg
  obtain ⟨c0, c1, c2, c3, lg⟩ := S7.o.cells
  go_wp2_with fail
  go_ret
  exact ⟨ret_int HE.o.symm, S7.o.b⟩
 rw [if_neg (by simp)] at hfe
 cases z7
 case false =>
  have HE := jQ (show E = 1 by rw [hfe]; simp)
  clear hfe
  obtain ⟨c0, c1, c2, c3, lg⟩ := S0.o.cells
  go_enter Tryz.func35, Tryz.ntmps35
  go_wp2_with fail
  refine (B0.o _ S0.o).mono ?_
  rintro e w1 ⟨rfl, hb⟩
  have S1 := jQ (S0.o.next hb)
  clear hb c0 c1 c2 c3 lg
  obtain ⟨c0, c1, c2, c3, lg⟩ := S1.o.cells
  go_wp2_with fail
  refine (B1.o _ S1.o).mono ?_
  rintro e w2 ⟨rfl, hb⟩
  have S2 := jQ (S1.o.next hb)
  clear hb c0 c1 c2 c3 lg
  obtain ⟨c0, c1, c2, c3, lg⟩ := S2.o.cells
  go_wp2_with fail
  refine (B2.o _ S2.o).mono ?_
  rintro e w3 ⟨rfl, hb⟩
  have S3 := jQ (S2.o.next hb)
  clear hb c0 c1 c2 c3 lg
  obtain ⟨c0, c1, c2, c3, lg⟩ := S3.o.cells
  go_wp2_with fail
  refine (B3.o _ S3.o).mono ?_
  rintro e w4 ⟨rfl, hb⟩
  have S4 := jQ (S3.o.next hb)
  clear hb c0 c1 c2 c3 lg
  obtain ⟨c0, c1, c2, c3, lg⟩ := S4.o.cells
  go_wp2_with fail
  refine (B4.o _ S4.o).mono ?_
  rintro e w5 ⟨rfl, hb⟩
  have S5 := jQ (S4.o.next hb)
  clear hb c0 c1 c2 c3 lg
  obtain ⟨c0, c1, c2, c3, lg⟩ := S5.o.cells
  go_wp2_with fail
  refine (B5.o _ S5.o).mono ?_
  rintro e w6 ⟨rfl, hb⟩
  have S6 := jQ (S5.o.next hb)
  clear hb c0 c1 c2 c3 lg
  obtain ⟨c0, c1, c2, c3, lg⟩ := S6.o.cells
  go_wp2_with fail
  refine (B6.o _ S6.o).mono ?_
  rintro e w7 ⟨rfl, hb⟩
  have S7 := jQ (S6.o.next hb)
  clear hb c0 c1 c2 c3 lg
  obtain ⟨c0, c1, c2, c3, lg⟩ := S7.o.cells
  go_wp2_with fail
  refine (B7.o _ S7.o).mono ?_
  rintro e w8 ⟨rfl, hb⟩
  have S8 := jQ (S7.o.next hb)
  clear hb c0 c1 c2 c3 lg
  obtain ⟨c0, c1, c2, c3, lg⟩ := S8.o.cells
  go_wp2_with fail
  go_ret
  exact ⟨ret_int HE.o.symm, S8.o.b⟩
 rw [if_neg (by simp)] at hfe
 cases z8
 case false =>
  have HE := jQ (show E = 30 by rw [hfe]; simp)
  clear hfe
  obtain ⟨c0, c1, c2, c3, lg⟩ := S0.o.cells
  go_enter Tryz.func35, Tryz.ntmps35
  go_wp2_with fail
  refine (B0.o _ S0.o).mono ?_
  rintro e w1 ⟨rfl, hb⟩
  have S1 := jQ (S0.o.next hb)
  clear hb c0 c1 c2 c3 lg
  obtain ⟨c0, c1, c2, c3, lg⟩ := S1.o.cells
  go_wp2_with fail
  refine (B1.o _ S1.o).mono ?_
  rintro e w2 ⟨rfl, hb⟩
  have S2 := jQ (S1.o.next hb)
  clear hb c0 c1 c2 c3 lg
  obtain ⟨c0, c1, c2, c3, lg⟩ := S2.o.cells
  go_wp2_with fail
  refine (B2.o _ S2.o).mono ?_
  rintro e w3 ⟨rfl, hb⟩
  have S3 := jQ (S2.o.next hb)
  clear hb c0 c1 c2 c3 lg
  obtain ⟨c0, c1, c2, c3, lg⟩ := S3.o.cells
  go_wp2_with fail
  refine (B3.o _ S3.o).mono ?_
  rintro e w4 ⟨rfl, hb⟩
  have S4 := jQ (S3.o.next hb)
  clear hb c0 c1 c2 c3 lg
  obtain ⟨c0, c1, c2, c3, lg⟩ := S4.o.cells
  go_wp2_with fail
  refine (B4.o _ S4.o).mono ?_
  rintro e w5 ⟨rfl, hb⟩
  have S5 := jQ (S4.o.next hb)
  clear hb c0 c1 c2 c3 lg
  obtain ⟨c0, c1, c2, c3, lg⟩ := S5.o.cells
  go_wp2_with fail
  refine (B5.o _ S5.o).mono ?_
  rintro e w6 ⟨rfl, hb⟩
  have S6 := jQ (S5.o.next hb)
  clear hb c0 c1 c2 c3 lg
  obtain ⟨c0, c1, c2, c3, lg⟩ := S6.o.cells
  go_wp2_with fail
  refine (B6.o _ S6.o).mono ?_
  rintro e w7 ⟨rfl, hb⟩
  have S7 := jQ (S6.o.next hb)
  clear hb c0 c1 c2 c3 lg
  obtain ⟨c0, c1, c2, c3, lg⟩ := S7.o.cells
  go_wp2_with fail
  refine (B7.o _ S7.o).mono ?_
  rintro e w8 ⟨rfl, hb⟩
  have S8 := jQ (S7.o.next hb)
  clear hb c0 c1 c2 c3 lg
  obtain ⟨c0, c1, c2, c3, lg⟩ := S8.o.cells
  go_wp2_with fail
  refine (B8.o h2 _ S8.o).mono ?_
  rintro e w9 ⟨rfl, hb⟩
  have S9 := jQ (S8.o.next hb)
  clear hb c0 c1 c2 c3 lg
  obtain ⟨c0, c1, c2, c3, lg⟩ := S9.o.cells
  go_wp2_with fail
  go_ret
  exact ⟨ret_int HE.o.symm, S9.o.b⟩
 rw [if_neg (by simp)] at hfe
 have HE := jQ (show E = 0 by exact hfe)
 clear hfe
 obtain ⟨c0, c1, c2, c3, lg⟩ := S0.o.cells
 go_enter Tryz.func35, Tryz.ntmps35
 go_wp2_with fail
 refine (B0.o _ S0.o).mono ?_
 rintro e w1 ⟨rfl, hb⟩
 have S1 := jQ (S0.o.next hb)
 clear hb c0 c1 c2 c3 lg
 obtain ⟨c0, c1, c2, c3, lg⟩ := S1.o.cells
 go_wp2_with fail
 refine (B1.o _ S1.o).mono ?_
 rintro e w2 ⟨rfl, hb⟩
 have S2 := jQ (S1.o.next hb)
 clear hb c0 c1 c2 c3 lg
 obtain ⟨c0, c1, c2, c3, lg⟩ := S2.o.cells
 go_wp2_with fail
 refine (B2.o _ S2.o).mono ?_
 rintro e w3 ⟨rfl, hb⟩
 have S3 := jQ (S2.o.next hb)
 clear hb c0 c1 c2 c3 lg
 obtain ⟨c0, c1, c2, c3, lg⟩ := S3.o.cells
 go_wp2_with fail
 refine (B3.o _ S3.o).mono ?_
 rintro e w4 ⟨rfl, hb⟩
 have S4 := jQ (S3.o.next hb)
 clear hb c0 c1 c2 c3 lg
 obtain ⟨c0, c1, c2, c3, lg⟩ := S4.o.cells
 go_wp2_with fail
 refine (B4.o _ S4.o).mono ?_
 rintro e w5 ⟨rfl, hb⟩
 have S5 := jQ (S4.o.next hb)
 clear hb c0 c1 c2 c3 lg
 obtain ⟨c0, c1, c2, c3, lg⟩ := S5.o.cells
 go_wp2_with fail
 refine (B5.o _ S5.o).mono ?_
 rintro e w6 ⟨rfl, hb⟩
 have S6 := jQ (S5.o.next hb)
 clear hb c0 c1 c2 c3 lg
 obtain ⟨c0, c1, c2, c3, lg⟩ := S6.o.cells
 go_wp2_with fail
 refine (B6.o _ S6.o).mono ?_
 rintro e w7 ⟨rfl, hb⟩
 have S7 := jQ (S6.o.next hb)
 clear hb c0 c1 c2 c3 lg
 obtain ⟨c0, c1, c2, c3, lg⟩ := S7.o.cells
 go_wp2_with fail
 refine (B7.o _ S7.o).mono ?_
 rintro e w8 ⟨rfl, hb⟩
 have S8 := jQ (S7.o.next hb)
 clear hb c0 c1 c2 c3 lg
 obtain ⟨c0, c1, c2, c3, lg⟩ := S8.o.cells
 go_wp2_with fail
 refine (B8.o h2 _ S8.o).mono ?_
 rintro e w9 ⟨rfl, hb⟩
 have S9 := jQ (S8.o.next hb)
 clear hb c0 c1 c2 c3 lg
 obtain ⟨c0, c1, c2, c3, lg⟩ := S9.o.cells
 go_wp2_with fail
 go_ret
 exact ⟨ret_int HE.o.symm, S9.o.b⟩
end
end Go.Proofs.YtccikcpcfdjobaaGreatDoor
