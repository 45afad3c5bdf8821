/-
  What the claim needs: contracts.
-/
import Derived.Test.YtccikcpcfdjobaaGreatDoorBs28
set_option linter.unusedVariables false
set_option linter.unusedSimpArgs false
set_option maxHeartbeats 8000000
set_option maxRecDepth 100000
namespace Go.Proofs.YtccikcpcfdjobaaGreatDoor
section
open Go.RowKit
def Dd.draftE (l : List Cs.Bs) : Option (Dd.Dr × List Cs.Bs) := (Dd.draftM l).bind fun p => (Dd.endW p.2).bind fun q => some (p.1, q.2)
theorem Dd.y2Y (l : List Cs.Bs) : Dd.draftF l = (Dd.draftE l).map (·.1) := by
 rw [<- Dd.y9h];unfold Dd.fin Dd.draftE;rcases Dd.draftM l with _ | ⟨d, r⟩
 ·rfl
 rcases r with _ | ⟨x, r⟩ <;> rfl
theorem yC7 (n : Nat) (k : Cs.Bs) (h : ctab k = some n) : ∀ args w, (callFunc n args).run Tryz.prog w = .ok (.enter n args) w := by
 unfold ctab at h;split at h
 ·cases h; exact enters_of Tryz.func198 (by kernel_rfl) rfl
 split at h
 ·cases h; exact enters_of Tryz.func199 (by kernel_rfl) rfl
 split at h
 ·cases h; exact enters_of Tryz.func200 (by kernel_rfl) rfl
 split at h
 ·cases h; exact enters_of Tryz.func201 (by kernel_rfl) rfl
 split at h
 ·cases h; exact enters_of Tryz.func202 (by kernel_rfl) rfl
 cases h
theorem yCd (n : Nat) (k : Cs.Bs) (r : List Cs.Bs) (h : ctab k = some n) (b : Nat) (W : World) (hE : Env W) (hz : Wz W b r) :
  Calls Tryz.prog n #[.pointer (some ⟨b, 0, none⟩)] W (Wo b W drval (Dd.draftM (k :: r))) := by
 unfold ctab at h;split at h
 ·rename_i e; cases h; subst e; exact yAi b r W hE hz
 split at h
 ·rename_i e; cases h; subst e; exact yAr b r W hE hz
 split at h
 ·rename_i e; cases h; subst e; exact y8Q b r W hE hz
 split at h
 ·rename_i e; cases h; subst e; exact y9F b r W hE hz
 split at h
 ·rename_i e; cases h; subst e; exact yAC b r W hE hz
 cases h
theorem y9a {k : Cs.Bs} {r : List Cs.Bs} (h : ctab k = none) : Dd.draftM (k :: r) = none := by
 unfold ctab at h;unfold Dd.draftM;split at h
 ·cases h
 split at h
 ·cases h
 split at h
 ·cases h
 split at h
 ·cases h
 split at h
 ·cases h
 simp [*]
theorem y0W (b : Nat) (l : List Cs.Bs) (W : World) (hE : Env W) (h : Wz W b l) :
  Calls Tryz.prog 102 #[.pointer (some ⟨b, 0, none⟩)] W (Wo b W drval (Dd.draftE l)) := by
 have hg := h.g9;have hbl := h.lt;have kg := Bk.new W 130 zero17;have hB0 := (Below.refl W.heap.size W).alloc (Nat.le_refl _) (.cells zero17 130);have hz0 := h.below hB0;have HE0 := jQ (hE.step hB0);simp only [zero17] at kg hB0 hz0 HE0;have HB0 := jQ (But.of (X := fun k => k = b) hB0);have HZ0 := jQ hz0;have HK0 := jQ kg;have hne : ¬ W.heap.size = b := by omega
 have HBL := jQ hbl;clear h hE kg hB0 hz0 hbl;go_enter Tryz.func102, Tryz.ntmps102;go_wp2_with fail;refine (y4i _).mono ?_;rintro e w1 ⟨mb, hmb, rfl, hmap, hb1⟩;have hne2 : mb ≠ b := by have := HZ0.o.lt; omega
 have HB1 := jQ (HB0.o.trans (But.of hb1));have HZ1 := jQ (HZ0.o.below hb1);have HE1 := jQ (HE0.o.step hb1);have HK1 := jQ (HK0.o.below hb1 HK0.o.lt);have HR := jQ (y6o mb b l w1 hmap hne2 HZ1.o);clear hmap hb1 hmb;go_wp2_with fail;refine HR.o.mono ?_;intro e w2 he;rcases hs : tabW ctab l with _ | ⟨n, r⟩
 ·have HW := jQ (show Dd.draftE l = none by
   rcases l with _ | ⟨k, r⟩
   ·rfl
   unfold Dd.draftE;rw [y9a (by rcases hk : ctab k with _ | n; rfl; simp [tabW, hk] at hs)];rfl)
  obtain ⟨rfl, hb⟩ := he.none_ hs;clear he hs;go_wp2_with fail;exact ⟨rfl, Wo.no HW.o (HB1.o.trans hb)⟩
 obtain ⟨k, rfl, hk⟩ : ∃ k, l = k :: r /\ ctab k = some n := by
  rcases l with _ | ⟨k, r'⟩
  ·cases hs
  rcases hk : ctab k with _ | m
  ·simp [tabW, hk] at hs
  simp [tabW, hk] at hs;obtain ⟨rfl, rfl⟩ := hs;exact ⟨k, rfl, hk⟩
 obtain ⟨rfl, hb, hz⟩ := he.some_ hs;have HB2 := jQ (HB1.o.trans hb);have HZ2 := jQ hz;have HE2 := jQ (HE1.o.but1 hb hg);have HK2 := jQ (hb.bk HK1.o hne);have HC := jQ (yCd n k r hk b w2 HE2.o hz);have hent := yC7 n k hk;clear he hb hz hs hk;simp only [fnv];go_wp2_with fail;refine HC.o.mono ?_;intro e v3 he;rcases hs : Dd.draftM (k :: r) with _ | ⟨d, r2⟩
 ·have HW := jQ (show Dd.draftE (k :: r) = none by unfold Dd.draftE; rw [hs]; rfl);obtain ⟨rfl, hb⟩ := he.none_ hs;clear he hs;go_wp2_with fail;exact ⟨rfl, Wo.no HW.o (HB2.o.trans hb)⟩
 have HS := jQ (show Dd.draftE (k :: r) = (Dd.endW r2).bind fun q => some (d, q.2) by unfold Dd.draftE; rw [hs]; rfl);obtain ⟨rfl, hb, hz⟩ := he.some_ hs;have hB3 := HB2.o.trans hb;have hE3 := HE2.o.but1 hb hg;have hK3 := hb.bk HK2.o hne;have hbn := (Below.refl v3.heap.size v3).alloc (Nat.le_refl _) (.cells (drcells d).toArray 130);have hkd := Bk.new v3 130 (drcells d).toArray;have hgd : W.heap.size < v3.heap.size := hK3.lt;obtain ⟨w3, hw3⟩ := zE (v3.alloc (.cells (drcells d).toArray 130));obtain ⟨gd, hgd2⟩ := zE (v3.heap.size);have hz3 := hz.below hbn;have HB3 := jQ (hw3 ▸ hB3.trans (But.of hbn));have HZ3 := jQ (hw3 ▸ hz3);have HE3 := jQ (hw3 ▸ hE3.step hbn);have HK3 := jQ (hw3 ▸ hK3.below hbn hK3.lt);have HD3 := jQ (hgd2 ▸ hw3 ▸ hkd);have hnd : ¬ gd = b := by have := HBL.o; omega
 have hgw : W.heap.size < gd := by omega
 have HX3 := jQ hw3;clear he hb hz hB3 hE3 hK3 hbn hkd hz3 hgd hs hw3;simp only [drval, drcells];go_wp2_with fail;rw [show v3.alloc (.cells #[.string ⟨d.l.toArray⟩, .string ⟨d.o.toArray⟩, .string ⟨d.a.toArray⟩, .string ⟨d.b.toArray⟩, .int .u8 d.c.k, .int .i64 d.c.l, .int .i64 d.c.o, .int .i64 d.c.a, .int .i64 d.c.b, .int .i64 d.c.s, .int .i64 d.c.e, .int .i64 d.c.c.b, .int .i64 d.c.c.n, .int .i64 d.c.c.l, .int .i64 d.c.c.y, .int .i64 d.c.c.w, .int .i64 d.c.c.s] 130) = w3 from HX3.o]
 try rw [hgd2]
 clear hgd2;refine (y0o b r2 _ HZ3.o).mono ?_;intro e v4 he;rcases hs : Dd.endW r2 with _ | ⟨u, r3⟩
 ·have HW := jQ (show Dd.draftE (k :: r) = none by rw [HS.o, hs]; rfl);obtain ⟨rfl, hb⟩ := he.none_ hs;clear he hs;go_wp2_with fail;exact ⟨rfl, Wo.no HW.o (HB3.o.trans hb)⟩
 have HW := jQ (show Dd.draftE (k :: r) = some (d, r3) by rw [HS.o, hs]; rfl);obtain ⟨rfl, hb, hz⟩ := he.some_ hs;have HB4 := jQ (HB3.o.trans hb);have HZ4 := jQ hz;have HK4 := jQ (hb.bk HK3.o hne);have HD4 := jQ (hb.bk HD3.o hnd);clear he hb hz hs;simp only [uv];go_wp2_with (first | (refine wpList_load_row rfl 130 (.tmp 4) rfl gd rfl 130 _ (0, 0) _ HD4.o Tryz.underlying130 rfl (by kernel_rfl) ?_) | (refine wpList_store_row rfl 130 (.tmp 2) (.tmp 13) rfl W.heap.size _ rfl rfl 130 _ HK4.o (by kernel_rfl) rfl (by kernel_rfl) ?_));have hk := HK4.o.row (drcells d).toArray;have hB := But.row (X := fun k => k = b ∨ k = W.heap.size) (g := W.heap.size) (HB4.o.mono (fun k h => .inl h)) (.inr rfl) (drcells d).toArray;have hZ := HZ4.o.but (But.row (X := fun k => k = W.heap.size) (g := W.heap.size) (But.refl _ _) rfl (drcells d).toArray) (fun k hk e => by have := HBL.o; omega);refine bodyPost_ret (y09 rfl _ _ W.heap.size 130 _ (0, 0) _ rfl hk Tryz.underlying130 rfl (by kernel_rfl)) rfl ?_;exact Wo.yes (val := drval) HW.o ⟨hB.os, hB.tape, hB.output, hB.size, fun k h1 h2 => hB.block k h1 (by rintro (e | e) <;> omega)⟩ hZ
def Po (w : World) (i : Int) (e : Ending) (w' : World) : Prop := (e = if i < 0 then .panicked [pan 5] else .returned (.int .i64 i)) /\ Below w.heap.size w w'
theorem y1R (A : Option Addr) (c : Nat) (ys : List Cs.Bs) (s : Cs.Bs) (w : World) (hR : Rd w w.heap.size 1 A ys.length (wcells ys)) (hl : ys.length <= 1000000) :
  Calls Tryz.prog 160 #[.slice A ys.length c, .string ⟨s.toArray⟩, .func (.func 77) #[] #[]] w (Po w (Dd.idx ys s)) := by
 have H0 := jQ (y5x A c ys s w hR hl);obtain ⟨i, hi⟩ := zE (Dd.idx ys s);rw [hi] at H0 ⊢;clear hR hi;by_cases h : i < 0
 ·have g0 : decide (i ≥ 0) = false := decide_eq_false (by omega);have N0 := jQ (y0U 5);have HP := jQ h;clear h;go_enter Tryz.func160, Tryz.ntmps160;go_wp2_with fail;refine H0.o.mono ?_;rintro e w1 ⟨rfl, hb1⟩;have HB1 := jQ hb1;clear hb1;go_wp2_with fail;refine (N0.o _).mono ?_;rintro e w2 ⟨rfl, hb2⟩;go_wp2_with fail;exact ⟨rfl, by rw [if_pos HP.o], HB1.o.trans (hb2.mono HB1.o.size)⟩
 have g0 : decide (i ≥ 0) = true := decide_eq_true (by omega);have N0 := jQ (y0L 5);have HP := jQ h;clear h;go_enter Tryz.func160, Tryz.ntmps160;go_wp2_with fail;refine H0.o.mono ?_;rintro e w1 ⟨rfl, hb1⟩;have HB1 := jQ hb1;clear hb1;go_wp2_with fail;refine (N0.o _).mono ?_;rintro e w2 ⟨rfl, hb2⟩;have HB2 := jQ (HB1.o.trans (hb2.mono HB1.o.size));clear hb2;go_wp2_with fail;go_ret;exact ⟨(if_neg (show ¬ i < 0 by have := HP.o; omega)).symm, HB2.o⟩
theorem y0d (A : Option Addr) (c : Nat) (ys : List (Cs.Bs × Int)) (s : Cs.Bs) (w : World) (hR : Rd w w.heap.size 2 A ys.length (scells ys)) (hl : ys.length <= 1000000) :
  Calls Tryz.prog 161 #[.slice A ys.length c, .string ⟨s.toArray⟩, .func (.func 75) #[] #[]] w (Po w (Dd.idx (ys.map (·.1)) s)) := by
 have H0 := jQ (y5w A c ys s w hR hl);obtain ⟨i, hi⟩ := zE (Dd.idx (ys.map (·.1)) s);rw [hi] at H0 ⊢;clear hR hi;by_cases h : i < 0
 ·have g0 : decide (i ≥ 0) = false := decide_eq_false (by omega);have N0 := jQ (y0U 5);have HP := jQ h;clear h;go_enter Tryz.func161, Tryz.ntmps161;go_wp2_with fail;refine H0.o.mono ?_;rintro e w1 ⟨rfl, hb1⟩;have HB1 := jQ hb1;clear hb1;go_wp2_with fail;refine (N0.o _).mono ?_;rintro e w2 ⟨rfl, hb2⟩;go_wp2_with fail;exact ⟨rfl, by rw [if_pos HP.o], HB1.o.trans (hb2.mono HB1.o.size)⟩
 have g0 : decide (i ≥ 0) = true := decide_eq_true (by omega);have N0 := jQ (y0L 5);have HP := jQ h;clear h;go_enter Tryz.func161, Tryz.ntmps161;go_wp2_with fail;refine H0.o.mono ?_;rintro e w1 ⟨rfl, hb1⟩;have HB1 := jQ hb1;clear hb1;go_wp2_with fail;refine (N0.o _).mono ?_;rintro e w2 ⟨rfl, hb2⟩;have HB2 := jQ (HB1.o.trans (hb2.mono HB1.o.size));clear hb2;go_wp2_with fail;go_ret;exact ⟨(if_neg (show ¬ i < 0 by have := HP.o; omega)).symm, HB2.o⟩
end
end Go.Proofs.YtccikcpcfdjobaaGreatDoor
