/-
  The chapter's examples, which each statement asks: measured.
-/
import Derived.Test.YtncdeogpmodoaaaGreatDoorLnk
import Derived.Test.YtncdeogpmodoaaaGreatDoorNar
import Derived.Test.YtncdeogpmodoaaaGreatDoorTru
set_option linter.unusedVariables false
set_option linter.unusedSimpArgs false
namespace Go.Proofs.YtncdeogpmodoaaaGreatDoor
open Go.RowKit
set_option maxRecDepth 100000

namespace Cs
def vs0 : List (Int × Int) := [(1700, 10), (1800, 12)]
def co0 : Co := ⟨50, 2, 1000, 1750, 0, 100⟩
def co1 : Co := ⟨230, 2, 1000, 1750, 0, 100⟩
theorem m1 : comF vs0 [co0] 866 = ((480, 519, true), 0) := by decide +kernel
theorem m2 : misfitF vs0 co0 866 479 = (5, 0) := by decide +kernel
theorem m3 : misfitF vs0 co0 866 560 = (2, 0) := by decide +kernel
theorem m4 : needF vs0 co0 866 500 = ((0, true), 0) := by decide +kernel
theorem m5 : revF co0 = (co1, 0) := by decide +kernel
theorem m6 : fitsF vs0 co1 (-866) (-500) = (true, 0) := by decide +kernel
theorem m7 : lnkF [49, 32, 112, 111, 108, 101, 32, 49, 32, 108, 105, 110, 107] = (26, 0) := by decide +kernel
theorem m8 : sin 210 = -5000 ∧ cos 60 = 5000 ∧ rootUp 24 = 5 := by decide +kernel
theorem m9 : lenF 341 = [51, 32, 99, 104, 97, 105, 110, 115, 32, 49, 32, 112, 111, 108, 101, 32, 49, 54, 32, 108, 105, 110, 107, 115] := by decide +kernel
theorem m10 : acrF 126250 = [49, 32, 97, 99, 114, 101, 32, 49, 32, 114, 111, 111, 100, 32, 50, 32, 112, 101, 114, 99, 104, 101, 115] := by decide +kernel
theorem m11 : quadF 150 = [115, 111, 117, 116, 104, 32, 51, 48, 32, 101, 97, 115, 116] := by decide +kernel
end Cs

/-- What the examples' course lies as. -/
def co0v : Value := .agg #[.int .i64 50, .int .i64 2, .int .i64 1000, .int .i64 1750, .int .i64 0, .int .i64 100]

theorem noted_any (w : World) : Calls Tryz.prog 55 #[] w fun e w' => ∃ A, e = .returned (.slice A 2 2) ∧ Rd w' w'.heap.size 2 A 2 (vcells Cs.vs0) ∧ Below w.heap.size w w' := by
  go_enter Tryz.func55, Tryz.ntmps55
  go_wp2
  go_ret
  refine ⟨_, rfl, ⟨rfl, fun _ => ⟨_, _, rfl, by simp, fun j hj => ?_⟩⟩, (Below.refl _ _).alloc (Nat.le_refl _) _⟩
  rw [(Bk.new w _ _).cell, Nat.zero_add]
  have h4 : j = 0 ∨ j = 1 ∨ j = 2 ∨ j = 3 := by omega
  rcases h4 with rfl | rfl | rfl | rfl <;> rfl

theorem walked_any (w : World) : Calls Tryz.prog 56 #[] w fun e w' => e = .returned co0v ∧ Below w.heap.size w w' := by
  go_enter Tryz.func56, Tryz.ntmps56
  go_wp2
  exact bodyPost_ret (v := co0v) (results_cell_row rfl _ _ w.heap.size 29 _ (0, 0) _ rfl (Bk.new w _ _) Tryz.underlying29 rfl (by kernel_rfl)) rfl ⟨rfl, (Below.refl _ _).alloc (Nat.le_refl _) _⟩

/-- What measured has found, step by step: the world, and what the variables hold there. -/
structure Mea (w W : World) : Prop where
  b : Below w.heap.size w W
  e : Env W
theorem Mea.next {w W W' : World} (h : Mea w W) (hb : Below W.heap.size W W') : Mea w W' := ⟨h.b.trans (hb.mono h.b.size), h.e.step hb⟩

set_option maxHeartbeats 8000000 in
theorem measured_any (w : World) (hE : Env w) : Calls Tryz.prog 21 #[] w fun e w' => e = .returned (.bool true) ∧ Below w.heap.size w w' := by
  have hi : ∀ A W, Sn W → Rd W W.heap.size 2 A 2 (vcells Cs.vs0) → Calls Tryz.prog 42 #[.slice A 2 2, co0v, .int .i64 866] W fun e w' => e = .returned (.tuple #[.int .i64 480, .int .i64 519, .bool true, .int .i64 0]) ∧ Below W.heap.size W w' := fun A W hs hR => by
    have h := Interval_any A 2 Cs.vs0 Cs.co0 866 W hs hR (by decide)
    rw [Cs.m1] at h
    exact h
  have hm1 : ∀ A W, Sn W → Rd W W.heap.size 2 A 2 (vcells Cs.vs0) → Calls Tryz.prog 39 #[.slice A 2 2, co0v, .int .i64 866, .int .i64 479] W fun e w' => e = .returned (.tuple #[.int .u8 5, .int .i64 0]) ∧ Below W.heap.size W w' := fun A W hs hR => by
    have h := Misfit_any A 2 Cs.vs0 Cs.co0 866 479 W hs hR (by decide)
    rw [Cs.m2] at h
    exact h
  have hm2 : ∀ A W, Sn W → Rd W W.heap.size 2 A 2 (vcells Cs.vs0) → Calls Tryz.prog 39 #[.slice A 2 2, co0v, .int .i64 866, .int .i64 560] W fun e w' => e = .returned (.tuple #[.int .u8 2, .int .i64 0]) ∧ Below W.heap.size W w' := fun A W hs hR => by
    have h := Misfit_any A 2 Cs.vs0 Cs.co0 866 560 W hs hR (by decide)
    rw [Cs.m3] at h
    exact h
  have hn : ∀ A W, Sn W → Rd W W.heap.size 2 A 2 (vcells Cs.vs0) → Calls Tryz.prog 44 #[.slice A 2 2, co0v, .int .i64 866, .int .i64 500] W fun e w' => e = .returned (.tuple #[.int .i64 0, .bool true, .int .i64 0]) ∧ Below W.heap.size W w' := fun A W hs hR => by
    have h := Needed_any A 2 Cs.vs0 Cs.co0 866 500 W hs hR (by decide)
    rw [Cs.m4] at h
    exact h
  have hr : ∀ W, Calls Tryz.prog 46 #[co0v] W fun e w' => e = .returned (.tuple #[.agg #[.int .i64 230, .int .i64 2, .int .i64 1000, .int .i64 1750, .int .i64 0, .int .i64 100], .int .i64 0]) ∧ Below W.heap.size W w' := fun W => by
    have h := Reverse_any Cs.co0 W
    rw [Cs.m5] at h
    exact h
  have hf : ∀ A W, Sn W → Rd W W.heap.size 2 A 2 (vcells Cs.vs0) → Calls Tryz.prog 41 #[.slice A 2 2, .agg #[.int .i64 230, .int .i64 2, .int .i64 1000, .int .i64 1750, .int .i64 0, .int .i64 100], .int .i64 (-866), .int .i64 (-500)] W fun e w' => e = .returned (.tuple #[.bool true, .int .i64 0]) ∧ Below W.heap.size W w' := fun A W hs hR => by
    have h := Fits_any A 2 Cs.vs0 Cs.co1 (-866) (-500) W hs hR (by decide)
    rw [Cs.m6] at h
    exact h
  have hl : ∀ W, Env W → Calls Tryz.prog 57 #[.string ⟨#[49, 32, 112, 111, 108, 101, 32, 49, 32, 108, 105, 110, 107]⟩] W fun e w' => e = .returned (.tuple #[.int .i64 26, .int .i64 0]) ∧ Below W.heap.size W w' := fun W h => by
    have h := Links_any [49, 32, 112, 111, 108, 101, 32, 49, 32, 108, 105, 110, 107] (by decide) W h
    rw [Cs.m7] at h
    exact h
  have hs1 : ∀ W, Sn W → Calls Tryz.prog 17 #[.int .i64 210] W fun e w' => e = .returned (.int .i64 (-5000)) ∧ W = w' := fun W h => by have h := sin_any 210 W h; rw [Cs.m8.1] at h; exact h
  have hc1 : ∀ W, Sn W → Calls Tryz.prog 19 #[.int .i64 60] W fun e w' => e = .returned (.int .i64 5000) ∧ W = w' := fun W h => by have h := cos_any 60 W h; rw [Cs.m8.2.1] at h; exact h
  have hu1 : ∀ W, Calls Tryz.prog 23 #[.int .i64 24] W fun e w' => e = .returned (.int .i64 5) ∧ W = w' := fun W => by have h := rootUp_any 24 (by decide) (by decide) W; rw [Cs.m8.2.2] at h; exact h
  have hl1 : ∀ W, Env W → Calls Tryz.prog 58 #[.int .i64 341] W fun e w' => e = .returned (.string ⟨#[51, 32, 99, 104, 97, 105, 110, 115, 32, 49, 32, 112, 111, 108, 101, 32, 49, 54, 32, 108, 105, 110, 107, 115]⟩) ∧ Below W.heap.size W w' := fun W h => by have h := Length_any 341 W h; rw [Cs.m9] at h; exact h
  have ha1 : ∀ W, Env W → Calls Tryz.prog 59 #[.int .i64 126250] W fun e w' => e = .returned (.string ⟨#[49, 32, 97, 99, 114, 101, 32, 49, 32, 114, 111, 111, 100, 32, 50, 32, 112, 101, 114, 99, 104, 101, 115]⟩) ∧ Below W.heap.size W w' := fun W h => by have h := Acres_any 126250 W h; rw [Cs.m10] at h; exact h
  have hq1 : ∀ W, Env W → Calls Tryz.prog 60 #[.int .i64 150] W fun e w' => e = .returned (.string ⟨#[115, 111, 117, 116, 104, 32, 51, 48, 32, 101, 97, 115, 116]⟩) ∧ Below W.heap.size W w' := fun W h => by have h := Quadrant_any 150 W h; rw [Cs.m11] at h; exact h
  have HI := Lib.hid hi
  have HM1 := Lib.hid hm1
  have HM2 := Lib.hid hm2
  have HN := Lib.hid hn
  have HR := Lib.hid hr
  have HF := Lib.hid hf
  have HL := Lib.hid hl
  have HS1 := Lib.hid hs1
  have HC1 := Lib.hid hc1
  have HU1 := Lib.hid hu1
  have HL1 := Lib.hid hl1
  have HA1 := Lib.hid ha1
  have HQ1 := Lib.hid hq1
  have M0 := Lib.hid (show Mea w w from ⟨Below.refl _ _, hE⟩)
  have HV := Lib.hid (rfl : co0v = .agg #[.int .i64 50, .int .i64 2, .int .i64 1000, .int .i64 1750, .int .i64 0, .int .i64 100])
  clear hi hm1 hm2 hn hr hf hl hs1 hc1 hu1 hl1 ha1 hq1 hE
  go_enter Tryz.func21, Tryz.ntmps21
  go_wp2_with fail
  refine (noted_any _).mono ?_
  rintro e w1 ⟨A1, rfl, hR, hb⟩
  have M1 := Lib.hid (M0.out.next hb)
  have HR1 := Lib.hid hR
  clear hb hR
  go_wp2_with fail
  refine (walked_any _).mono ?_
  rintro e w2 ⟨rfl, hb⟩
  have M2 := Lib.hid (M1.out.next hb)
  have HR2 := Lib.hid ((HR1.out.below hb (Nat.le_refl _)).more hb.size)
  clear hb
  go_wp2_with fail
  refine (HI.out _ _ M2.out.e.sn HR2.out).mono ?_
  rintro e w3 ⟨rfl, hb⟩
  have M3 := Lib.hid (M2.out.next hb)
  clear hb
  go_wp2_with fail
  refine (noted_any _).mono ?_
  rintro e w4 ⟨A4, rfl, hR, hb⟩
  have M4 := Lib.hid (M3.out.next hb)
  have HR4 := Lib.hid hR
  clear hb hR
  go_wp2_with fail
  refine (walked_any _).mono ?_
  rintro e w5 ⟨rfl, hb⟩
  have M5 := Lib.hid (M4.out.next hb)
  have HR5 := Lib.hid ((HR4.out.below hb (Nat.le_refl _)).more hb.size)
  clear hb
  go_wp2_with fail
  refine (HM1.out _ _ M5.out.e.sn HR5.out).mono ?_
  rintro e w6 ⟨rfl, hb⟩
  have M6 := Lib.hid (M5.out.next hb)
  clear hb
  go_wp2_with fail
  refine (noted_any _).mono ?_
  rintro e w7 ⟨A7, rfl, hR, hb⟩
  have M7 := Lib.hid (M6.out.next hb)
  have HR7 := Lib.hid hR
  clear hb hR
  go_wp2_with fail
  refine (walked_any _).mono ?_
  rintro e w8 ⟨rfl, hb⟩
  have M8 := Lib.hid (M7.out.next hb)
  have HR8 := Lib.hid ((HR7.out.below hb (Nat.le_refl _)).more hb.size)
  clear hb
  go_wp2_with fail
  refine (HM2.out _ _ M8.out.e.sn HR8.out).mono ?_
  rintro e w9 ⟨rfl, hb⟩
  have M9 := Lib.hid (M8.out.next hb)
  clear hb
  go_wp2_with fail
  refine (noted_any _).mono ?_
  rintro e w10 ⟨A10, rfl, hR, hb⟩
  have M10 := Lib.hid (M9.out.next hb)
  have HR10 := Lib.hid hR
  clear hb hR
  go_wp2_with fail
  refine (walked_any _).mono ?_
  rintro e w11 ⟨rfl, hb⟩
  have M11 := Lib.hid (M10.out.next hb)
  have HR11 := Lib.hid ((HR10.out.below hb (Nat.le_refl _)).more hb.size)
  clear hb
  go_wp2_with fail
  refine (HN.out _ _ M11.out.e.sn HR11.out).mono ?_
  rintro e w12 ⟨rfl, hb⟩
  have M12 := Lib.hid (M11.out.next hb)
  clear hb
  go_wp2_with fail
  refine (walked_any _).mono ?_
  rintro e w13 ⟨rfl, hb⟩
  have M13 := Lib.hid (M12.out.next hb)
  clear hb
  go_wp2_with fail
  refine (HR.out _).mono ?_
  rintro e w14 ⟨rfl, hb⟩
  have M14 := Lib.hid (M13.out.next hb)
  clear hb
  go_wp2_with fail
  have hb := (Below.refl w14.heap.size w14).alloc (Nat.le_refl _) (.cells #[.int .i64 230, .int .i64 2, .int .i64 1000, .int .i64 1750, .int .i64 0, .int .i64 100] 29)
  have k0 := Bk.new w14 29 #[.int .i64 230, .int .i64 2, .int .i64 1000, .int .i64 1750, .int .i64 0, .int .i64 100]
  have M15 := Lib.hid (M14.out.next hb)
  obtain ⟨W6, hW6⟩ : ∃ W, w14.alloc (.cells #[.int .i64 230, .int .i64 2, .int .i64 1000, .int .i64 1750, .int .i64 0, .int .i64 100] 29) = W := ⟨_, rfl⟩
  obtain ⟨B, hB⟩ : ∃ B, w14.heap.size = B := ⟨_, rfl⟩
  rw [hB] at k0
  rw [hW6] at k0 M15 ⊢
  rw [hB]
  clear hW6 hb hB
  have HSB := Lib.hid (show ∀ V, Below W6.heap.size W6 V → (((V.cell? ⟨B, 0, none⟩ = some (.int .i64 230) ∧ V.cell? ⟨B, 1, none⟩ = some (.int .i64 2)) ∧ (V.cell? ⟨B, 2, none⟩ = some (.int .i64 1000) ∧ V.cell? ⟨B, 3, none⟩ = some (.int .i64 1750))) ∧ (V.cell? ⟨B, 4, none⟩ = some (.int .i64 0) ∧ V.cell? ⟨B, 5, none⟩ = some (.int .i64 100))) from fun V h => by
    have k := k0.below h k0.lt
    exact ⟨⟨⟨(k.cell 0).trans rfl, (k.cell 1).trans rfl⟩, ⟨(k.cell 2).trans rfl, (k.cell 3).trans rfl⟩⟩, ⟨(k.cell 4).trans rfl, (k.cell 5).trans rfl⟩⟩)
  have K0 := Lib.hid k0
  have hbZ : Below W6.heap.size W6 W6.drew := (Below.refl _ _).drew
  clear k0
  refine wp_region_held_drew (S := fun V => (((V.cell? ⟨B, 0, none⟩ = some (.int .i64 230) ∧ V.cell? ⟨B, 1, none⟩ = some (.int .i64 2)) ∧ (V.cell? ⟨B, 2, none⟩ = some (.int .i64 1000) ∧ V.cell? ⟨B, 3, none⟩ = some (.int .i64 1750))) ∧ (V.cell? ⟨B, 4, none⟩ = some (.int .i64 0) ∧ V.cell? ⟨B, 5, none⟩ = some (.int .i64 100)))) (by kernel_rfl) (HSB.out _ hbZ) (fun _ => ?_)
  (refine wpAnyH_take (i := 1) (v := ?_) rfl (by kernel_rfl) (by kernel_rfl) (by kernel_rfl) (fun _ _ _ h => h) (Or.inl ⟨by rfl, ?_⟩) (HSB.out _ hbZ) ?_; rotate_left 1; focus (intro w hSw; (try dsimp only at hSw); go_simp; all_goals (with_reducible rfl)); (try simp only [Act.put, List.setIfInBounds_toArray, List.set_cons_zero, List.set_cons_succ]))
  refine wpAnyH_ready (rs := [0]) (by kernel_rfl) (by simp) ?_
  refine AllReadyH.cons rfl (fun K hK => ?_) AllReadyH.nil
  rw [if_pos (by rfl)]
  go_simp
  refine (noted_any _).mono ?_
  rintro e wP ⟨AP, rfl, hR, hbp⟩
  have hbP : Below W6.heap.size W6 wP := hbZ.trans (hbp.mono hbZ.size)
  have HRP := Lib.hid hR
  have MP := Lib.hid (M15.out.next hbP)
  simp only []
  refine hK.out _ _ (HSB.out _ hbP) (fun _ => ?_)
  clear hK K hR
  (try simp only [Act.put, List.setIfInBounds_toArray, List.set_cons_zero, List.set_cons_succ])
  refine wpAnyH_ready (rs := [2]) (by kernel_rfl) (by simp) ?_
  refine AllReadyH.cons rfl (fun K hK => ?_) AllReadyH.nil
  rw [if_pos (by rfl)]
  go_simp
  refine (HF.out _ _ MP.out.e.sn HRP.out).mono ?_
  rintro e wQ ⟨rfl, hbq⟩
  have hbQ : Below W6.heap.size W6 wQ := hbP.trans (hbq.mono hbP.size)
  have MQ := Lib.hid (M15.out.next hbQ)
  have kQ := K0.out.below hbQ K0.out.lt
  simp only []
  refine hK.out _ _ (HSB.out _ hbQ) (fun _ => ?_)
  clear hK K
  (try simp only [Act.put, List.setIfInBounds_toArray, List.set_cons_zero, List.set_cons_succ])
  (refine wpAnyH_take (i := 3) (v := ?_) rfl (by kernel_rfl) (by kernel_rfl) (by kernel_rfl) (fun _ _ _ h => h) (Or.inl ⟨by rfl, ?_⟩) (HSB.out _ hbQ) ?_; rotate_left 1; focus (intro w hSw; (try dsimp only at hSw); go_simp; all_goals (with_reducible rfl)); (try simp only [Act.put, List.setIfInBounds_toArray, List.set_cons_zero, List.set_cons_succ]))
  (refine wpAnyH_take (i := 4) (v := ?_) rfl (by kernel_rfl) (by kernel_rfl) (by kernel_rfl) (fun _ _ _ h => h) (Or.inl ⟨by rfl, ?_⟩) (HSB.out _ hbQ) ?_; rotate_left 1; focus (intro w hSw; (try dsimp only at hSw); go_simp; all_goals (with_reducible rfl)); (try simp only [Act.put, List.setIfInBounds_toArray, List.set_cons_zero, List.set_cons_succ]))
  (refine wpAnyH_take (i := 5) (v := ?_) rfl (by kernel_rfl) (by kernel_rfl) (by kernel_rfl) (fun _ _ _ h => h) (Or.inl ⟨by rfl, ?_⟩) (HSB.out _ hbQ) ?_; rotate_left 1; focus (intro w hSw; (try dsimp only at hSw); go_simp; all_goals (with_reducible rfl)); (try simp only [Act.put, List.setIfInBounds_toArray, List.set_cons_zero, List.set_cons_succ]))
  (refine wpAnyH_take (i := 6) (v := ?_) rfl (by kernel_rfl) (by kernel_rfl) (by kernel_rfl) (fun _ _ _ h => h) (Or.inl ⟨by rfl, ?_⟩) (HSB.out _ hbQ) ?_; rotate_left 1; focus (intro w hSw; (try dsimp only at hSw); go_simp; all_goals (with_reducible rfl)); (try simp only [Act.put, List.setIfInBounds_toArray, List.set_cons_zero, List.set_cons_succ]))
  (refine wpAnyH_take (i := 7) (v := ?_) rfl (by kernel_rfl) (by kernel_rfl) (by kernel_rfl) (fun _ _ _ h => h) (Or.inl ⟨by rfl, ?_⟩) (HSB.out _ hbQ) ?_; rotate_left 1; focus (intro w hSw; (try dsimp only at hSw); go_simp; all_goals (with_reducible rfl)); (try simp only [Act.put, List.setIfInBounds_toArray, List.set_cons_zero, List.set_cons_succ]))
  refine wpAnyH_done (by kernel_rfl) ?_ _
  have KQ := Lib.hid kQ
  clear kQ hbq hbQ hbP hbp hbZ
  go_wp2_with fail
  refine (HL.out _ MQ.out.e).mono ?_
  rintro e wR ⟨rfl, hb⟩
  have MR := Lib.hid (MQ.out.next hb)
  have kR := KQ.out.below hb KQ.out.lt
  have c0 := (kR.cell 0).trans rfl
  have lR := kR.lt
  clear hb kR
  go_wp2_with (first
    | (go_at_call 17; refine (HS1.out _ MR.out.e.sn).mono ?_; rintro e w' ⟨rfl, rfl⟩)
    | (go_at_call 19; refine (HC1.out _ MR.out.e.sn).mono ?_; rintro e w' ⟨rfl, rfl⟩)
    | (go_at_call 23; refine (HU1.out _).mono ?_; rintro e w' ⟨rfl, rfl⟩))
  refine (HL1.out _ MR.out.e).mono ?_
  rintro e wS ⟨rfl, hb⟩
  have MS := Lib.hid (MR.out.next hb)
  clear hb c0 lR
  go_wp2_with fail
  refine (HA1.out _ MS.out.e).mono ?_
  rintro e wT ⟨rfl, hb⟩
  have MT := Lib.hid (MS.out.next hb)
  clear hb
  go_wp2_with fail
  refine (HQ1.out _ MT.out.e).mono ?_
  rintro e wU ⟨rfl, hb⟩
  have MU := Lib.hid (MT.out.next hb)
  clear hb
  go_wp2_with fail
  go_ret
  exact ⟨rfl, MU.out.b⟩

end Go.Proofs.YtncdeogpmodoaaaGreatDoor
