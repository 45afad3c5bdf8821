/-
  What the claims of layer deed need of the texts DRea.
-/
import Derived.Test.YtcbeefbefapicaaGreatDoorBn28
set_option linter.unusedVariables false
set_option linter.unusedSimpArgs false
namespace Go.Proofs.YtcbeefbefapicaaGreatDoor
open Go.RowKit
set_option maxRecDepth 100000
def Dd.draftE (l : List Cs.Bs) : Option (Dd.Dr × List Cs.Bs) := (Dd.draftM l).bind fun p => (Dd.endW p.2).bind fun q => some (p.1, q.2)
theorem Dd.draftE_fin (l : List Cs.Bs) : Dd.draftF l = (Dd.draftE l).map (·.1) := by
 rw [← Dd.draft_fin]
 unfold Dd.fin Dd.draftE
 rcases Dd.draftM l with _ | ⟨d, r⟩
 ·rfl
 ·rcases r with _ | ⟨x, r⟩ <;> rfl
theorem centers (n : Nat) (k : Cs.Bs) (h : ctab k = some n) : ∀ args w, (callFunc n args).run Tryz.prog w = .ok (.enter n args) w := by
 unfold ctab at h
 split at h
 ·cases h; exact enters_of Tryz.func129 (by kernel_rfl) rfl
 split at h
 ·cases h; exact enters_of Tryz.func130 (by kernel_rfl) rfl
 split at h
 ·cases h; exact enters_of Tryz.func131 (by kernel_rfl) rfl
 split at h
 ·cases h; exact enters_of Tryz.func132 (by kernel_rfl) rfl
 split at h
 ·cases h; exact enters_of Tryz.func133 (by kernel_rfl) rfl
 ·cases h
theorem creads (n : Nat) (k : Cs.Bs) (r : List Cs.Bs) (h : ctab k = some n) (b : Nat) (W : World) (hE : Env W) (hz : Wz W b r) :
  Calls Tryz.prog n #[.pointer (some ⟨b, 0, none⟩)] W (Wo b W drval (Dd.draftM (k :: r))) := by
 unfold ctab at h
 split at h
 ·rename_i e; cases h; subst e; exact stone_any b r W hE hz
 split at h
 ·rename_i e; cases h; subst e; exact width_any b r W hE hz
 split at h
 ·rename_i e; cases h; subst e; exact course_any b r W hE hz
 split at h
 ·rename_i e; cases h; subst e; exact along_any b r W hE hz
 split at h
 ·rename_i e; cases h; subst e; exact level_any b r W hE hz
 ·cases h
theorem ctab_none {k : Cs.Bs} {r : List Cs.Bs} (h : ctab k = none) : Dd.draftM (k :: r) = none := by
 unfold ctab at h
 unfold Dd.draftM
 split at h
 ·cases h
 split at h
 ·cases h
 split at h
 ·cases h
 split at h
 ·cases h
 split at h
 ·cases h
 ·simp [*]
set_option maxHeartbeats 8000000 in
theorem readDraft_any (b : Nat) (l : List Cs.Bs) (W : World) (hE : Env W) (h : Wz W b l) :
  Calls Tryz.prog 63 #[.pointer (some ⟨b, 0, none⟩)] W (Wo b W drval (Dd.draftE l)) := by
 have hg := h.g9
 have hbl := h.lt
 have kg := Bk.new W 113 zero17
 have hB0 := (Below.refl W.heap.size W).alloc (Nat.le_refl _) (.cells zero17 113)
 have hz0 := h.below hB0
 have HE0 := Lib.hid (hE.step hB0)
 simp only [zero17] at kg hB0 hz0 HE0
 have HB0 := Lib.hid (But.of (X := fun k => k = b) hB0)
 have HZ0 := Lib.hid hz0
 have HK0 := Lib.hid kg
 have hne : ¬ W.heap.size = b := by omega
 have HBL := Lib.hid hbl
 clear h hE kg hB0 hz0 hbl
 go_enter Tryz.func63, Tryz.ntmps63
 go_wp2_with fail
 refine (callForms_any _).mono ?_
 rintro e w1 ⟨mb, hmb, rfl, hmap, hb1⟩
 have hne2 : mb ≠ b := by have := HZ0.out.lt; omega
 have HB1 := Lib.hid (HB0.out.trans (But.of hb1))
 have HZ1 := Lib.hid (HZ0.out.below hb1)
 have HE1 := Lib.hid (HE0.out.step hb1)
 have HK1 := Lib.hid (HK0.out.below hb1 HK0.out.lt)
 have HR := Lib.hid (creader_any mb b l w1 hmap hne2 HZ1.out)
 clear hmap hb1 hmb
 go_wp2_with fail
 refine HR.out.mono ?_
 intro e w2 he
 rcases hs : tabW ctab l with _ | ⟨n, r⟩
 ·have HW := Lib.hid (show Dd.draftE l = none by
   rcases l with _ | ⟨k, r⟩
   ·rfl
   ·unfold Dd.draftE
    rw [ctab_none (by rcases hk : ctab k with _ | n; rfl; simp [tabW, hk] at hs)]
    rfl)
  obtain ⟨rfl, hb⟩ := he.none_ hs
  clear he hs
  go_wp2_with fail
  exact ⟨rfl, Wo.no HW.out (HB1.out.trans hb)⟩
 ·obtain ⟨k, rfl, hk⟩ : ∃ k, l = k :: r ∧ ctab k = some n := by
   rcases l with _ | ⟨k, r'⟩
   ·cases hs
   ·rcases hk : ctab k with _ | m
    ·simp [tabW, hk] at hs
    ·simp [tabW, hk] at hs
     obtain ⟨rfl, rfl⟩ := hs
     exact ⟨k, rfl, hk⟩
  obtain ⟨rfl, hb, hz⟩ := he.some_ hs
  have HB2 := Lib.hid (HB1.out.trans hb)
  have HZ2 := Lib.hid hz
  have HE2 := Lib.hid (HE1.out.but1 hb hg)
  have HK2 := Lib.hid (hb.bk HK1.out hne)
  have HC := Lib.hid (creads n k r hk b w2 HE2.out hz)
  have hent := centers n k hk
  clear he hb hz hs hk
  simp only [fnv]
  go_wp2_with fail
  refine HC.out.mono ?_
  intro e v3 he
  rcases hs : Dd.draftM (k :: r) with _ | ⟨d, r2⟩
  ·have HW := Lib.hid (show Dd.draftE (k :: r) = none by unfold Dd.draftE; rw [hs]; rfl)
   obtain ⟨rfl, hb⟩ := he.none_ hs
   clear he hs
   go_wp2_with fail
   exact ⟨rfl, Wo.no HW.out (HB2.out.trans hb)⟩
  ·have HS := Lib.hid (show Dd.draftE (k :: r) = (Dd.endW r2).bind fun q => some (d, q.2) by unfold Dd.draftE; rw [hs]; rfl)
   obtain ⟨rfl, hb, hz⟩ := he.some_ hs
   have hB3 := HB2.out.trans hb
   have hE3 := HE2.out.but1 hb hg
   have hK3 := hb.bk HK2.out hne
   have hbn := (Below.refl v3.heap.size v3).alloc (Nat.le_refl _) (.cells (drcells d).toArray 113)
   have hkd := Bk.new v3 113 (drcells d).toArray
   have hgd : W.heap.size < v3.heap.size := hK3.lt
   obtain ⟨w3, hw3⟩ : ∃ w3, v3.alloc (.cells (drcells d).toArray 113) = w3 := ⟨_, rfl⟩
   obtain ⟨gd, hgd2⟩ : ∃ gd, v3.heap.size = gd := ⟨_, rfl⟩
   have hz3 := hz.below hbn
   have HB3 := Lib.hid (hw3 ▸ hB3.trans (But.of hbn))
   have HZ3 := Lib.hid (hw3 ▸ hz3)
   have HE3 := Lib.hid (hw3 ▸ hE3.step hbn)
   have HK3 := Lib.hid (hw3 ▸ hK3.below hbn hK3.lt)
   have HD3 := Lib.hid (hgd2 ▸ hw3 ▸ hkd)
   have hnd : ¬ gd = b := by have := HBL.out; omega
   have hgw : W.heap.size < gd := by omega
   have HX3 := Lib.hid hw3
   clear he hb hz hB3 hE3 hK3 hbn hkd hz3 hgd hs hw3
   simp only [drval, drcells]
   go_wp2_with fail
   rw [show v3.alloc (.cells #[.string ⟨d.l.toArray⟩, .string ⟨d.o.toArray⟩, .string ⟨d.a.toArray⟩, .string ⟨d.b.toArray⟩, .int .u8 d.c.k, .int .i64 d.c.l, .int .i64 d.c.o, .int .i64 d.c.a, .int .i64 d.c.b, .int .i64 d.c.s, .int .i64 d.c.e, .int .i64 d.c.c.b, .int .i64 d.c.c.n, .int .i64 d.c.c.l, .int .i64 d.c.c.y, .int .i64 d.c.c.w, .int .i64 d.c.c.s] 113) = w3 from HX3.out]
   try rw [hgd2]
   clear hgd2
   refine (wend_any b r2 _ HZ3.out).mono ?_
   intro e v4 he
   rcases hs : Dd.endW r2 with _ | ⟨u, r3⟩
   ·have HW := Lib.hid (show Dd.draftE (k :: r) = none by rw [HS.out, hs]; rfl)
    obtain ⟨rfl, hb⟩ := he.none_ hs
    clear he hs
    go_wp2_with fail
    exact ⟨rfl, Wo.no HW.out (HB3.out.trans hb)⟩
   ·have HW := Lib.hid (show Dd.draftE (k :: r) = some (d, r3) by rw [HS.out, hs]; rfl)
    obtain ⟨rfl, hb, hz⟩ := he.some_ hs
    have HB4 := Lib.hid (HB3.out.trans hb)
    have HZ4 := Lib.hid hz
    have HK4 := Lib.hid (hb.bk HK3.out hne)
    have HD4 := Lib.hid (hb.bk HD3.out hnd)
    clear he hb hz hs
    simp only [uv]
    go_wp2_with (first | (refine wpList_load_row rfl 113 (.tmp 4) rfl gd rfl 113 _ (0, 0) _ HD4.out Tryz.underlying113 rfl (by kernel_rfl) ?_) | (refine wpList_store_row rfl 113 (.tmp 2) (.tmp 13) rfl W.heap.size _ rfl rfl 113 _ HK4.out (by kernel_rfl) rfl (by kernel_rfl) ?_))
    have hk := HK4.out.row (drcells d).toArray
    have hB := But.row (X := fun k => k = b ∨ k = W.heap.size) (g := W.heap.size) (HB4.out.mono (fun k h => .inl h)) (.inr rfl) (drcells d).toArray
    have hZ := HZ4.out.but (But.row (X := fun k => k = W.heap.size) (g := W.heap.size) (But.refl _ _) rfl (drcells d).toArray) (fun k hk e => by have := HBL.out; omega)
    refine bodyPost_ret (results_cell_row1 rfl _ _ W.heap.size 113 _ (0, 0) _ rfl hk Tryz.underlying113 rfl (by kernel_rfl)) rfl ?_
    exact Wo.yes (val := drval) HW.out ⟨hB.os, hB.tape, hB.output, hB.size, fun k h1 h2 => hB.block k h1 (by rintro (e | e) <;> omega)⟩ hZ
def Po (w : World) (i : Int) (e : Ending) (w' : World) : Prop := (e = if i < 0 then .panicked [pan 5] else .returned (.int .i64 i)) ∧ Below w.heap.size w w'
set_option maxHeartbeats 2000000 in
theorem placeTx_any (A : Option Addr) (c : Nat) (ys : List Cs.Bs) (s : Cs.Bs) (w : World) (hR : Rd w w.heap.size 1 A ys.length (wcells ys)) (hl : ys.length ≤ 1000000) :
  Calls Tryz.prog 110 #[.slice A ys.length c, .string ⟨s.toArray⟩, .func (.func 47) #[] #[]] w (Po w (Dd.idx ys s)) := by
 have H0 := Lib.hid (namTx_any A c ys s w hR hl)
 obtain ⟨i, hi⟩ : ∃ i, Dd.idx ys s = i := ⟨_, rfl⟩
 rw [hi] at H0 ⊢
 clear hR hi
 by_cases h : i < 0
 ·have g0 : decide (i ≥ 0) = false := decide_eq_false (by omega)
  have N0 := Lib.hid (need_no 5)
  have HP := Lib.hid h
  clear h
  go_enter Tryz.func110, Tryz.ntmps110
  go_wp2_with fail
  refine H0.out.mono ?_
  rintro e w1 ⟨rfl, hb1⟩
  have HB1 := Lib.hid hb1
  clear hb1
  go_wp2_with fail
  refine (N0.out _).mono ?_
  rintro e w2 ⟨rfl, hb2⟩
  go_wp2_with fail
  exact ⟨rfl, by rw [if_pos HP.out], HB1.out.trans (hb2.mono HB1.out.size)⟩
 ·have g0 : decide (i ≥ 0) = true := decide_eq_true (by omega)
  have N0 := Lib.hid (need_yes 5)
  have HP := Lib.hid h
  clear h
  go_enter Tryz.func110, Tryz.ntmps110
  go_wp2_with fail
  refine H0.out.mono ?_
  rintro e w1 ⟨rfl, hb1⟩
  have HB1 := Lib.hid hb1
  clear hb1
  go_wp2_with fail
  refine (N0.out _).mono ?_
  rintro e w2 ⟨rfl, hb2⟩
  have HB2 := Lib.hid (HB1.out.trans (hb2.mono HB1.out.size))
  clear hb2
  go_wp2_with fail
  go_ret
  exact ⟨(if_neg (show ¬ i < 0 by have := HP.out; omega)).symm, HB2.out⟩
set_option maxHeartbeats 2000000 in
theorem placeSt_any (A : Option Addr) (c : Nat) (ys : List (Cs.Bs × Int)) (s : Cs.Bs) (w : World) (hR : Rd w w.heap.size 2 A ys.length (scells ys)) (hl : ys.length ≤ 1000000) :
  Calls Tryz.prog 111 #[.slice A ys.length c, .string ⟨s.toArray⟩, .func (.func 45) #[] #[]] w (Po w (Dd.idx (ys.map (·.1)) s)) := by
 have H0 := Lib.hid (namSt_any A c ys s w hR hl)
 obtain ⟨i, hi⟩ : ∃ i, Dd.idx (ys.map (·.1)) s = i := ⟨_, rfl⟩
 rw [hi] at H0 ⊢
 clear hR hi
 by_cases h : i < 0
 ·have g0 : decide (i ≥ 0) = false := decide_eq_false (by omega)
  have N0 := Lib.hid (need_no 5)
  have HP := Lib.hid h
  clear h
  go_enter Tryz.func111, Tryz.ntmps111
  go_wp2_with fail
  refine H0.out.mono ?_
  rintro e w1 ⟨rfl, hb1⟩
  have HB1 := Lib.hid hb1
  clear hb1
  go_wp2_with fail
  refine (N0.out _).mono ?_
  rintro e w2 ⟨rfl, hb2⟩
  go_wp2_with fail
  exact ⟨rfl, by rw [if_pos HP.out], HB1.out.trans (hb2.mono HB1.out.size)⟩
 ·have g0 : decide (i ≥ 0) = true := decide_eq_true (by omega)
  have N0 := Lib.hid (need_yes 5)
  have HP := Lib.hid h
  clear h
  go_enter Tryz.func111, Tryz.ntmps111
  go_wp2_with fail
  refine H0.out.mono ?_
  rintro e w1 ⟨rfl, hb1⟩
  have HB1 := Lib.hid hb1
  clear hb1
  go_wp2_with fail
  refine (N0.out _).mono ?_
  rintro e w2 ⟨rfl, hb2⟩
  have HB2 := Lib.hid (HB1.out.trans (hb2.mono HB1.out.size))
  clear hb2
  go_wp2_with fail
  go_ret
  exact ⟨(if_neg (show ¬ i < 0 by have := HP.out; omega)).symm, HB2.out⟩
end Go.Proofs.YtcbeefbefapicaaGreatDoor
