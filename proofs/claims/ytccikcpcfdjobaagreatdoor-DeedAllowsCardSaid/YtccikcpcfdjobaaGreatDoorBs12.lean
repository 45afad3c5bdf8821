/-
  What the claim needs: contracts.
-/
import Derived.Test.YtccikcpcfdjobaaGreatDoorBs10
set_option linter.unusedVariables false
set_option linter.unusedSimpArgs false
set_option maxHeartbeats 8000000
set_option maxRecDepth 100000
namespace Go.Proofs.YtccikcpcfdjobaaGreatDoor
section
open Go.RowKit
def qcells : Array Value := #[sv Cs.wNorth, sv Cs.wEast, sv Cs.wSouth, sv Cs.wWest]
theorem y6L (w : World) : Calls Tryz.prog 305 #[] w fun e w' => e = .returned (.slice (some ⟨w.heap.size, 0, none⟩) 4 4) /\ w' = w.alloc (.cells qcells 9) := by
 go_enter Tryz.func305, Tryz.ntmps305
 go_wp2
 go_ret;exact ⟨rfl, rfl⟩
theorem y0Z (w : World) : Calls Tryz.prog 305 #[] w fun e w' => ∃ g, e = .returned (.slice (some ⟨g, 0, none⟩) 4 4) /\ Bk w' g 9 qcells /\ Below w.heap.size w w' := by
 refine (y6L w).mono ?_;rintro e w' ⟨rfl, rfl⟩;exact ⟨_, rfl, Bk.new _ _ _, (Below.refl _ _).alloc (Nat.le_refl _) _⟩
def qlist : List ByteArray := Cs.quarters.map fun l => ⟨l.toArray⟩
theorem yD0 {a b : Cs.Bs} : ((⟨a.toArray⟩ : ByteArray) = ⟨b.toArray⟩) ↔ a = b := by
 constructor
 ·intro h;have := congrArg (fun x => x.data.toList) h;simpa using this
 rintro rfl; rfl
theorem yCi (w0 : Cs.Bs) : Lib.idxOfS (qlist.take 4) ⟨w0.toArray⟩ = Cs.idxQ w0 := by
 unfold Lib.idxOfS qlist Cs.quarters Cs.idxQ;simp only [List.map_cons, List.map_nil, List.take_succ_cons, List.take_zero, Lib.idxFromS, yD0, eq_comm (b := w0)];split
 ·rfl
 split
 ·rfl
 split
 ·rfl
 split
 ·rfl
 rfl
theorem y9v (w0 : Cs.Bs) (B : Nat) (w : World) (hk : Bk w B 9 qcells) :
  Calls Tryz.prog 283 #[.slice (some ⟨B, 0, none⟩) 4 4, .string ⟨w0.toArray⟩] w fun e w' => e = .returned (.int .i64 (Cs.idxQ w0)) /\ Below w.heap.size w w' := by
 have h := Tryz.slices_Index_string B 0 4 4 qlist ⟨w0.toArray⟩ w (by decide) (by decide) (fun j hj => by
  have hj4 : j < 4 := hj;have h4 : j = 0 ∨ j = 1 ∨ j = 2 ∨ j = 3 := by omega
  rw [Nat.zero_add];rcases h4 with rfl | rfl | rfl | rfl <;> exact (hk.cell _).trans rfl)
 rw [yCi] at h;refine h.mono ?_;rintro e w' ⟨he, rfl⟩;exact ⟨he, Below.refl _ _⟩
theorem yCW {w : World} {B : Nat} {A : Option Addr} {ws : List Cs.Bs} (h : Rd w B 1 A ws.length (wcells ws)) (h0 : 0 < ws.length) :
  ∃ b off, A = some ⟨b, off, none⟩ /\ b < B /\ ∀ k (hk : k < ws.length), w.cell? ⟨b, off + k, none⟩ = some (.string ⟨ws[k].toArray⟩) := by
 obtain ⟨b, off, e, hb, hc⟩ := h.2 h0;refine ⟨b, off, e, hb, fun k hk => ?_⟩;rw [hc k (by omega)];simp [wcells, sv, hk]
theorem y4t (A : Option Addr) (c : Nat) (ws : List Cs.Bs) (W : World) (hE : Env W) (hR : Rd W W.heap.size 1 A ws.length (wcells ws)) (hc : ws.length <= c) (hn : ws.length <= 8) (hl : ∀ x ∈ ws, x.length <= 1000000) (h0 : 0 < ws.length) :
  Calls Tryz.prog 284 #[.slice A ws.length c] W fun e w' => Rdn (Cs.dirF ws) e /\ Below W.heap.size W w' := by
 obtain ⟨b, off, rfl, hb, hw⟩ := yCW hR h0;obtain ⟨w0, r, rfl⟩ : ∃ w0 r, ws = w0 :: r := by
  cases ws with
  | nil => simp at h0
  | cons w0 r => exact ⟨w0, r, rfl⟩
 have q0 := hw 0 (by simp);simp only [Nat.add_zero, List.getElem_cons_zero] at q0;obtain ⟨n, hnl⟩ := zE ((w0 :: r).length);have hIX := fun B w hk => y9v w0 B w hk;have hr4 : -1 <= Cs.idxQ w0 /\ Cs.idxQ w0 <= 3 := by unfold Cs.idxQ; constructor <;> (repeat' split) <;> decide
 obtain ⟨i, hi⟩ := zE (Cs.idxQ w0);rw [hi] at hIX hr4;rw [hnl] at h0 hn hc;have HSB := jQ (show ∀ V, Below W.heap.size W V -> V.cell? ⟨b, off, none⟩ = some (.string ⟨w0.toArray⟩) from fun V h => (h.cell (p := ⟨b, off, none⟩) hb).trans q0);have HIX := jQ hIX;have HE := jQ hE;have HW := jQ hw;have HL := jQ hl;clear hIX hE hw hl q0 hR;obtain ⟨r0, r1⟩ := hr4;by_cases h1 : n = 1
 ·subst h1;obtain rfl : r = [] := by cases r with | nil => rfl | cons x y => simp at hnl
  by_cases hi0 : 0 <= i
  ·have hF : Cs.dirF [w0] = some (90 * i) := by rw [Cs.dirF, hi, if_pos hi0]
   have HF := jQ (Rdn.some_ hF);have hd : decide (0 <= i) = true := decide_eq_true hi0;clear hF hi hi0;show Calls Tryz.prog 284 #[.slice (some ⟨b, off, none⟩) 1 c] W _;go_enter Tryz.func284, Tryz.ntmps284;go_wp2_with fail;have hbZ : Below W.heap.size W W.drew := (Below.refl _ _).drew;go_region_held3 (fun V => V.cell? ⟨b, off, none⟩ = some (.string ⟨w0.toArray⟩))
    (first
     | ((try dsimp only); first | (with_reducible exact HSB.o _ hbD) | (with_reducible exact HSB.o _ hbA) | (with_reducible exact HSB.o _ hbZ)))
    (first
     | (go_at_call 305; refine (y0Z _).mono ?_; rintro e wA ⟨gA, rfl, hkA, hba⟩; have hbA : Below W.heap.size W wA := hbZ.trans (hba.mono hbZ.size))
     | (go_at_call 283; refine (HIX.o _ _ hkA).mono ?_; rintro e wD ⟨rfl, hbd⟩; have hbD : Below W.heap.size W wD := hbA.trans (hbd.mono hbA.size)))
   all_goals
    go_wp2_with fail;go_ret;exact ⟨HF.o, hbD⟩
  have hF : Cs.dirF [w0] = none := by rw [Cs.dirF, hi, if_neg hi0]
  have HF := jQ (Rdn.none_ hF);have hd : decide (0 <= i) = false := decide_eq_false hi0;clear hF hi hi0;show Calls Tryz.prog 284 #[.slice (some ⟨b, off, none⟩) 1 c] W _;go_enter Tryz.func284, Tryz.ntmps284;go_wp2_with fail;have hbZ : Below W.heap.size W W.drew := (Below.refl _ _).drew;go_region_held3 (fun V => V.cell? ⟨b, off, none⟩ = some (.string ⟨w0.toArray⟩))
   (first
    | ((try dsimp only); first | (with_reducible exact HSB.o _ hbD) | (with_reducible exact HSB.o _ hbA) | (with_reducible exact HSB.o _ hbZ)))
   (first
    | (go_at_call 305; refine (y0Z _).mono ?_; rintro e wA ⟨gA, rfl, hkA, hba⟩; have hbA : Below W.heap.size W wA := hbZ.trans (hba.mono hbZ.size))
    | (go_at_call 283; refine (HIX.o _ _ hkA).mono ?_; rintro e wD ⟨rfl, hbd⟩; have hbD : Below W.heap.size W wD := hbA.trans (hbd.mono hbA.size)))
  all_goals
   go_wp2_with fail;exact ⟨rfl, HF.o, hbD⟩
 by_cases h3 : n = 3
 ·subst h3;obtain ⟨w1, w2, rfl⟩ : ∃ w1 w2, r = [w1, w2] := by
   match r, hnl with
   | [w1, w2], _ => exact ⟨w1, w2, rfl⟩
  have q1 := HW.o 1 (by simp);have q2 := HW.o 2 (by simp);simp only [List.getElem_cons_succ, List.getElem_cons_zero] at q1 q2;have l0 := HL.o w0 (by simp);have l1 := HL.o w1 (by simp);have l2 := HL.o w2 (by simp);have HS1 := jQ (show ∀ V, Below W.heap.size W V -> V.cell? ⟨b, off + 1, none⟩ = some (.string ⟨w1.toArray⟩) from fun V h => (h.cell (p := ⟨b, off + 1, none⟩) hb).trans q1);have HS2 := jQ (show ∀ V, Below W.heap.size W V -> V.cell? ⟨b, off + 2, none⟩ = some (.string ⟨w2.toArray⟩) from fun V h => (h.cell (p := ⟨b, off + 2, none⟩) hb).trans q2);clear q1 q2 HW HL hi h1;rcases hnum : Cs.numF w1 with _ | k
  ·have hF : Cs.dirF [w0, w1, w2] = none := by rw [Cs.dirF, hnum]
   have HF := jQ (Rdn.none_ hF);have hno := fun W h => y62 w1 hnum l1 W h;rw [y06] at hno;have HNO := jQ hno;clear hF hno hnum;rcases hd : decide (0 <= i) with _ | _
   all_goals
    show Calls Tryz.prog 284 #[.slice (some ⟨b, off, none⟩) 3 c] W _;go_enter Tryz.func284, Tryz.ntmps284;go_wp2_with fail;have hbZ : Below W.heap.size W W.drew := (Below.refl _ _).drew;go_region_held3 (fun V => V.cell? ⟨b, off, none⟩ = some (.string ⟨w0.toArray⟩))
     (first
      | ((try dsimp only); first | (with_reducible exact HSB.o _ hbD) | (with_reducible exact HSB.o _ hbA) | (with_reducible exact HSB.o _ hbZ)))
     (first
      | (go_at_call 305; refine (y0Z _).mono ?_; rintro e wA ⟨gA, rfl, hkA, hba⟩; have hbA : Below W.heap.size W wA := hbZ.trans (hba.mono hbZ.size))
      | (go_at_call 283; refine (HIX.o _ _ hkA).mono ?_; rintro e wD ⟨rfl, hbd⟩; have hbD : Below W.heap.size W wD := hbA.trans (hbd.mono hbA.size)))
    all_goals
     have q1 := HS1.o _ hbD;have lb : b < wD.heap.size := Nat.lt_of_lt_of_le hb hbD.size;go_wp2_with fail;refine (HNO.o _ (HE.o.step hbD)).mono ?_;rintro e wE ⟨rfl, hbe⟩;have hbE : Below W.heap.size W wE := hbD.trans (hbe.mono hbD.size);go_wp2_with fail;exact ⟨rfl, HF.o, hbE⟩
  have hF : Cs.dirF [w0, w1, w2] = Cs.dir3 w0 w2 k := by rw [Cs.dirF, hnum]
  rw [hF];have hyes := fun W => y4X w1 k hnum l1 W;rw [y06] at hyes;have HYES := jQ hyes;have c1 := fun w => cat2 (P := Tryz.prog) w0 [32] (by omega) (by decide) w;have c2 := fun w => run_string_add_lists (P := Tryz.prog) w (w0 ++ [32]) w2 (by simp; omega) (by omega);have hd3 : ∀ X, w0 ++ [32] ++ w2 = X -> Cs.dir3 w0 w2 k = if X = [110, 111, 114, 116, 104, 32, 101, 97, 115, 116] then some k else if X = [115, 111, 117, 116, 104, 32, 101, 97, 115, 116] then some (Cs.wr (180 - k)) else if X = [115, 111, 117, 116, 104, 32, 119, 101, 115, 116] then some (Cs.wr (180 + k)) else if X = [110, 111, 114, 116, 104, 32, 119, 101, 115, 116] then some (Cs.wr (360 - k)) else none := fun X h => by
   rw [Cs.dir3, h];rfl
  have hd3' := hd3 _ rfl;clear hd3;obtain ⟨x1, hx1⟩ := zE ((w0 ++ [32] : Cs.Bs));rw [hx1] at c1 c2 hd3';obtain ⟨X, hX⟩ := zE (x1 ++ w2);rw [hX] at c2 hd3';have v1 := y3f (180 - k);have v2 := y3f (180 + k);have v3 := y3f (360 - k);obtain ⟨R, hR⟩ := zE (Cs.dir3 w0 w2 k);rw [hR] at hd3' ⊢;obtain ⟨p1, hp1⟩ := zE (Cs.wr (180 - k));obtain ⟨p2, hp2⟩ := zE (Cs.wr (180 + k));obtain ⟨p3, hp3⟩ := zE (Cs.wr (360 - k));rw [hp1] at v1 hd3';rw [hp2] at v2 hd3';rw [hp3] at v3 hd3';clear hF hyes hnum hx1 hX hR hp1 hp2 hp3;by_cases n0 : X = [110, 111, 114, 116, 104, 32, 101, 97, 115, 116]
  ·rw [if_pos n0] at hd3';have HF := jQ (Rdn.some_ hd3');have m0 : (X == [110, 111, 114, 116, 104, 32, 101, 97, 115, 116]) = true := by rw [n0]; rfl
   clear hd3' n0;rcases hd : decide (0 <= i) with _ | _
   all_goals
    show Calls Tryz.prog 284 #[.slice (some ⟨b, off, none⟩) 3 c] W _;go_enter Tryz.func284, Tryz.ntmps284;go_wp2_with fail;have hbZ : Below W.heap.size W W.drew := (Below.refl _ _).drew;go_region_held3 (fun V => V.cell? ⟨b, off, none⟩ = some (.string ⟨w0.toArray⟩))
     (first
      | ((try dsimp only); first | (with_reducible exact HSB.o _ hbD) | (with_reducible exact HSB.o _ hbA) | (with_reducible exact HSB.o _ hbZ)))
     (first
      | (go_at_call 305; refine (y0Z _).mono ?_; rintro e wA ⟨gA, rfl, hkA, hba⟩; have hbA : Below W.heap.size W wA := hbZ.trans (hba.mono hbZ.size))
      | (go_at_call 283; refine (HIX.o _ _ hkA).mono ?_; rintro e wD ⟨rfl, hbd⟩; have hbD : Below W.heap.size W wD := hbA.trans (hbd.mono hbA.size)))
    all_goals
     have q1 := HS1.o _ hbD;have lb : b < wD.heap.size := Nat.lt_of_lt_of_le hb hbD.size;go_wp2_with fail;refine (HYES.o _).mono ?_;rintro e wE ⟨rfl, hbe⟩;have hbE : Below W.heap.size W wE := hbD.trans (hbe.mono hbD.size);have e0 := HSB.o _ hbE;have e2 := HS2.o _ hbE;have le : b < wE.heap.size := Nat.lt_of_lt_of_le hb hbE.size;clear q1 lb hbe;go_wp2_with fail;go_quiet (fail);go_wp2_with fail;go_ret;exact ⟨HF.o, hbE.os, hbE.tape, hbE.output, hbE.size, hbE.block⟩
  skip
  by_cases n1 : X = [115, 111, 117, 116, 104, 32, 101, 97, 115, 116]
  ·have m0 : (X == [110, 111, 114, 116, 104, 32, 101, 97, 115, 116]) = false := by simp only [beq_eq_false_iff_ne]; exact n0
   rw [if_neg n0] at hd3';rw [if_pos n1] at hd3';have HF := jQ (Rdn.some_ hd3');have m1 : (X == [115, 111, 117, 116, 104, 32, 101, 97, 115, 116]) = true := by rw [n1]; rfl
   clear hd3' n0 n1;rcases hd : decide (0 <= i) with _ | _
   all_goals
    show Calls Tryz.prog 284 #[.slice (some ⟨b, off, none⟩) 3 c] W _;go_enter Tryz.func284, Tryz.ntmps284;go_wp2_with fail;have hbZ : Below W.heap.size W W.drew := (Below.refl _ _).drew;go_region_held3 (fun V => V.cell? ⟨b, off, none⟩ = some (.string ⟨w0.toArray⟩))
     (first
      | ((try dsimp only); first | (with_reducible exact HSB.o _ hbD) | (with_reducible exact HSB.o _ hbA) | (with_reducible exact HSB.o _ hbZ)))
     (first
      | (go_at_call 305; refine (y0Z _).mono ?_; rintro e wA ⟨gA, rfl, hkA, hba⟩; have hbA : Below W.heap.size W wA := hbZ.trans (hba.mono hbZ.size))
      | (go_at_call 283; refine (HIX.o _ _ hkA).mono ?_; rintro e wD ⟨rfl, hbd⟩; have hbD : Below W.heap.size W wD := hbA.trans (hbd.mono hbA.size)))
    all_goals
     have q1 := HS1.o _ hbD;have lb : b < wD.heap.size := Nat.lt_of_lt_of_le hb hbD.size;go_wp2_with fail;refine (HYES.o _).mono ?_;rintro e wE ⟨rfl, hbe⟩;have hbE : Below W.heap.size W wE := hbD.trans (hbe.mono hbD.size);have e0 := HSB.o _ hbE;have e2 := HS2.o _ hbE;have le : b < wE.heap.size := Nat.lt_of_lt_of_le hb hbE.size;clear q1 lb hbe;go_wp2_with fail;go_quiet (fail);go_wp2_with fail;go_ret;exact ⟨HF.o, hbE.os, hbE.tape, hbE.output, hbE.size, hbE.block⟩
  skip
  by_cases n2 : X = [115, 111, 117, 116, 104, 32, 119, 101, 115, 116]
  ·have m0 : (X == [110, 111, 114, 116, 104, 32, 101, 97, 115, 116]) = false := by simp only [beq_eq_false_iff_ne]; exact n0
   rw [if_neg n0] at hd3';have m1 : (X == [115, 111, 117, 116, 104, 32, 101, 97, 115, 116]) = false := by simp only [beq_eq_false_iff_ne]; exact n1
   rw [if_neg n1] at hd3';rw [if_pos n2] at hd3';have HF := jQ (Rdn.some_ hd3');have m2 : (X == [115, 111, 117, 116, 104, 32, 119, 101, 115, 116]) = true := by rw [n2]; rfl
   clear hd3' n0 n1 n2;rcases hd : decide (0 <= i) with _ | _
   all_goals
    show Calls Tryz.prog 284 #[.slice (some ⟨b, off, none⟩) 3 c] W _;go_enter Tryz.func284, Tryz.ntmps284;go_wp2_with fail;have hbZ : Below W.heap.size W W.drew := (Below.refl _ _).drew;go_region_held3 (fun V => V.cell? ⟨b, off, none⟩ = some (.string ⟨w0.toArray⟩))
     (first
      | ((try dsimp only); first | (with_reducible exact HSB.o _ hbD) | (with_reducible exact HSB.o _ hbA) | (with_reducible exact HSB.o _ hbZ)))
     (first
      | (go_at_call 305; refine (y0Z _).mono ?_; rintro e wA ⟨gA, rfl, hkA, hba⟩; have hbA : Below W.heap.size W wA := hbZ.trans (hba.mono hbZ.size))
      | (go_at_call 283; refine (HIX.o _ _ hkA).mono ?_; rintro e wD ⟨rfl, hbd⟩; have hbD : Below W.heap.size W wD := hbA.trans (hbd.mono hbA.size)))
    all_goals
     have q1 := HS1.o _ hbD;have lb : b < wD.heap.size := Nat.lt_of_lt_of_le hb hbD.size;go_wp2_with fail;refine (HYES.o _).mono ?_;rintro e wE ⟨rfl, hbe⟩;have hbE : Below W.heap.size W wE := hbD.trans (hbe.mono hbD.size);have e0 := HSB.o _ hbE;have e2 := HS2.o _ hbE;have le : b < wE.heap.size := Nat.lt_of_lt_of_le hb hbE.size;clear q1 lb hbe;go_wp2_with fail;go_quiet (fail);go_wp2_with fail;go_ret;exact ⟨HF.o, hbE.os, hbE.tape, hbE.output, hbE.size, hbE.block⟩
  skip
  by_cases n3 : X = [110, 111, 114, 116, 104, 32, 119, 101, 115, 116]
  ·have m0 : (X == [110, 111, 114, 116, 104, 32, 101, 97, 115, 116]) = false := by simp only [beq_eq_false_iff_ne]; exact n0
   rw [if_neg n0] at hd3';have m1 : (X == [115, 111, 117, 116, 104, 32, 101, 97, 115, 116]) = false := by simp only [beq_eq_false_iff_ne]; exact n1
   rw [if_neg n1] at hd3';have m2 : (X == [115, 111, 117, 116, 104, 32, 119, 101, 115, 116]) = false := by simp only [beq_eq_false_iff_ne]; exact n2
   rw [if_neg n2] at hd3';rw [if_pos n3] at hd3';have HF := jQ (Rdn.some_ hd3');have m3 : (X == [110, 111, 114, 116, 104, 32, 119, 101, 115, 116]) = true := by rw [n3]; rfl
   clear hd3' n0 n1 n2 n3;rcases hd : decide (0 <= i) with _ | _
   all_goals
    show Calls Tryz.prog 284 #[.slice (some ⟨b, off, none⟩) 3 c] W _;go_enter Tryz.func284, Tryz.ntmps284;go_wp2_with fail;have hbZ : Below W.heap.size W W.drew := (Below.refl _ _).drew;go_region_held3 (fun V => V.cell? ⟨b, off, none⟩ = some (.string ⟨w0.toArray⟩))
     (first
      | ((try dsimp only); first | (with_reducible exact HSB.o _ hbD) | (with_reducible exact HSB.o _ hbA) | (with_reducible exact HSB.o _ hbZ)))
     (first
      | (go_at_call 305; refine (y0Z _).mono ?_; rintro e wA ⟨gA, rfl, hkA, hba⟩; have hbA : Below W.heap.size W wA := hbZ.trans (hba.mono hbZ.size))
      | (go_at_call 283; refine (HIX.o _ _ hkA).mono ?_; rintro e wD ⟨rfl, hbd⟩; have hbD : Below W.heap.size W wD := hbA.trans (hbd.mono hbA.size)))
    all_goals
     have q1 := HS1.o _ hbD;have lb : b < wD.heap.size := Nat.lt_of_lt_of_le hb hbD.size;go_wp2_with fail;refine (HYES.o _).mono ?_;rintro e wE ⟨rfl, hbe⟩;have hbE : Below W.heap.size W wE := hbD.trans (hbe.mono hbD.size);have e0 := HSB.o _ hbE;have e2 := HS2.o _ hbE;have le : b < wE.heap.size := Nat.lt_of_lt_of_le hb hbE.size;clear q1 lb hbe;go_wp2_with fail;go_quiet (fail);go_wp2_with fail;go_ret;exact ⟨HF.o, hbE.os, hbE.tape, hbE.output, hbE.size, hbE.block⟩
  have m0 : (X == [110, 111, 114, 116, 104, 32, 101, 97, 115, 116]) = false := by simp only [beq_eq_false_iff_ne]; exact n0
  rw [if_neg n0] at hd3';have m1 : (X == [115, 111, 117, 116, 104, 32, 101, 97, 115, 116]) = false := by simp only [beq_eq_false_iff_ne]; exact n1
  rw [if_neg n1] at hd3';have m2 : (X == [115, 111, 117, 116, 104, 32, 119, 101, 115, 116]) = false := by simp only [beq_eq_false_iff_ne]; exact n2
  rw [if_neg n2] at hd3';have m3 : (X == [110, 111, 114, 116, 104, 32, 119, 101, 115, 116]) = false := by simp only [beq_eq_false_iff_ne]; exact n3
  rw [if_neg n3] at hd3';have HF := jQ (Rdn.none_ hd3');clear hd3' n0 n1 n2 n3;rcases hd : decide (0 <= i) with _ | _
  all_goals
   show Calls Tryz.prog 284 #[.slice (some ⟨b, off, none⟩) 3 c] W _;go_enter Tryz.func284, Tryz.ntmps284;go_wp2_with fail;have hbZ : Below W.heap.size W W.drew := (Below.refl _ _).drew;go_region_held3 (fun V => V.cell? ⟨b, off, none⟩ = some (.string ⟨w0.toArray⟩))
    (first
     | ((try dsimp only); first | (with_reducible exact HSB.o _ hbD) | (with_reducible exact HSB.o _ hbA) | (with_reducible exact HSB.o _ hbZ)))
    (first
     | (go_at_call 305; refine (y0Z _).mono ?_; rintro e wA ⟨gA, rfl, hkA, hba⟩; have hbA : Below W.heap.size W wA := hbZ.trans (hba.mono hbZ.size))
     | (go_at_call 283; refine (HIX.o _ _ hkA).mono ?_; rintro e wD ⟨rfl, hbd⟩; have hbD : Below W.heap.size W wD := hbA.trans (hbd.mono hbA.size)))
   all_goals
    have q1 := HS1.o _ hbD;have lb : b < wD.heap.size := Nat.lt_of_lt_of_le hb hbD.size;go_wp2_with fail;refine (HYES.o _).mono ?_;rintro e wE ⟨rfl, hbe⟩;have hbE : Below W.heap.size W wE := hbD.trans (hbe.mono hbD.size);have e0 := HSB.o _ hbE;have e2 := HS2.o _ hbE;have le : b < wE.heap.size := Nat.lt_of_lt_of_le hb hbE.size;clear q1 lb hbe;go_wp2_with fail;go_quiet (fail);go_wp2_with fail;exact ⟨rfl, HF.o, hbE.os, hbE.tape, hbE.output, hbE.size, hbE.block⟩
 have hF : Cs.dirF (w0 :: r) = none := by
  match r, hnl with
  | [], hnl => exact absurd hnl.symm h1
  | [x], hnl => rfl
  | [x, y], hnl => exact absurd hnl.symm h3
  | x :: y :: z :: q, hnl => rfl
 have HF := jQ (Rdn.none_ hF);have m1 : ((n : Int) == 1) = false := beq_eq_false_iff_ne.2 (by omega);have m3 : ((n : Int) != 3) = true := by simp; omega
 rw [hnl];clear hF hi hnl HW HL h1 h3;rcases hd : decide (0 <= i) with _ | _
 ·go_enter Tryz.func284, Tryz.ntmps284;go_wp2_with fail;have hbZ : Below W.heap.size W W.drew := (Below.refl _ _).drew;go_region_held3 (fun V => V.cell? ⟨b, off, none⟩ = some (.string ⟨w0.toArray⟩))
   (first
    | ((try dsimp only); first | (with_reducible exact HSB.o _ hbD) | (with_reducible exact HSB.o _ hbA) | (with_reducible exact HSB.o _ hbZ)))
   (first
    | (go_at_call 305; refine (y0Z _).mono ?_; rintro e wA ⟨gA, rfl, hkA, hba⟩; have hbA : Below W.heap.size W wA := hbZ.trans (hba.mono hbZ.size))
    | (go_at_call 283; refine (HIX.o _ _ hkA).mono ?_; rintro e wD ⟨rfl, hbd⟩; have hbD : Below W.heap.size W wD := hbA.trans (hbd.mono hbA.size)))
  all_goals
   go_wp2_with fail;exact ⟨rfl, HF.o, hbD⟩
 go_enter Tryz.func284, Tryz.ntmps284;go_wp2_with fail;have hbZ : Below W.heap.size W W.drew := (Below.refl _ _).drew;go_region_held3 (fun V => V.cell? ⟨b, off, none⟩ = some (.string ⟨w0.toArray⟩))
  (first
   | ((try dsimp only); first | (with_reducible exact HSB.o _ hbD) | (with_reducible exact HSB.o _ hbA) | (with_reducible exact HSB.o _ hbZ)))
  (first
   | (go_at_call 305; refine (y0Z _).mono ?_; rintro e wA ⟨gA, rfl, hkA, hba⟩; have hbA : Below W.heap.size W wA := hbZ.trans (hba.mono hbZ.size))
   | (go_at_call 283; refine (HIX.o _ _ hkA).mono ?_; rintro e wD ⟨rfl, hbd⟩; have hbD : Below W.heap.size W wD := hbA.trans (hbd.mono hbA.size)))
 all_goals
  go_wp2_with fail;exact ⟨rfl, HF.o, hbD⟩
theorem y6b (s : Cs.Bs) (hs : s.length <= 1000000) (w : World) (hE : Env w) :
  Calls Tryz.prog 266 #[sv s] w fun e w' => e = .returned (.tuple #[.int .i64 (Cs.berF s).1, .int .i64 (Cs.berF s).2]) /\ Below w.heap.size w w' := by
 have hrd := y7w 284 285 #[] Cs.dirF Cs.quadF s hs w hE
  (fun A c ws W hb hEW hR hc hn hl h0 => y4t A c ws W hEW hR hc hn hl h0)
  (fun n W h => y5W n W h) (enters_of Tryz.func284 (by kernel_rfl) rfl) (enters_of Tryz.func285 (by kernel_rfl) rfl)
 have e1 : Cs.readF Cs.dirF Cs.quadF s = Cs.berF s := rfl;rw [e1] at hrd;obtain ⟨⟨n, er⟩, hr⟩ : ∃ q, Cs.berF s = q := ⟨_, rfl⟩;rw [hr] at hrd ⊢;rw [y06] at hrd ⊢;have HRD := jQ hrd;clear hrd e1 hr hE;go_enter Tryz.func266, Tryz.ntmps266;go_wp2_with fail;refine HRD.o.mono ?_;rintro e w1 ⟨rfl, hb1⟩;go_wp2_with fail;go_ret2;exact ⟨rfl, hb1⟩
end
end Go.Proofs.YtccikcpcfdjobaaGreatDoor
