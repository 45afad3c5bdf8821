/-
  What the claims of layer deed need of the texts DRea, DTrd, DWof, DDat, DDe.
-/
import Derived.Defers
import Derived.Recover
import Derived.Test.YtccikcpcfdjobaaGreatDoorBq28
import Derived.Test.YtccikcpcfdjobaaGreatDoorBq11
import Derived.Test.YtccikcpcfdjobaaGreatDoorBq06
import Derived.Test.YtccikcpcfdjobaaGreatDoorBq30
import Derived.Test.YtccikcpcfdjobaaGreatDoorBq10
import Derived.Test.YtccikcpcfdjobaaGreatDoorBz
set_option linter.unusedVariables false
set_option linter.unusedSimpArgs false
set_option maxHeartbeats 8000000
set_option maxRecDepth 100000
namespace Go.Proofs.YtccikcpcfdjobaaGreatDoor
section
open Go.RowKit
def Dd.draftE (l : List Cs.Bs) : Option (Dd.Dr × List Cs.Bs) := (Dd.draftM l).bind fun p => (Dd.endW p.2).bind fun q => some (p.1, q.2)
theorem Dd.draftE_fin (l : List Cs.Bs) : Dd.draftF l = (Dd.draftE l).map (·.1) := by
 rw [← Dd.draft_fin]
 unfold Dd.fin Dd.draftE
 rcases Dd.draftM l with _ | ⟨d, r⟩
 ·rfl
 ·rcases r with _ | ⟨x, r⟩ <;> rfl
theorem centers (n : Nat) (k : Cs.Bs) (h : ctab k = some n) : ∀ args w, (callFunc n args).run Tryz.prog w = .ok (.enter n args) w := by
 unfold ctab at h
 split at h
 ·cases h; exact enters_of Tryz.func198 (by kernel_rfl) rfl
 split at h
 ·cases h; exact enters_of Tryz.func199 (by kernel_rfl) rfl
 split at h
 ·cases h; exact enters_of Tryz.func200 (by kernel_rfl) rfl
 split at h
 ·cases h; exact enters_of Tryz.func201 (by kernel_rfl) rfl
 split at h
 ·cases h; exact enters_of Tryz.func202 (by kernel_rfl) rfl
 ·cases h
theorem creads (n : Nat) (k : Cs.Bs) (r : List Cs.Bs) (h : ctab k = some n) (b : Nat) (W : World) (hE : Env W) (hz : Wz W b r) :
  Calls Tryz.prog n #[.pointer (some ⟨b, 0, none⟩)] W (Wo b W drval (Dd.draftM (k :: r))) := by
 unfold ctab at h
 split at h
 ·rename_i e; cases h; subst e; exact stone_any b r W hE hz
 split at h
 ·rename_i e; cases h; subst e; exact width_any b r W hE hz
 split at h
 ·rename_i e; cases h; subst e; exact course_any b r W hE hz
 split at h
 ·rename_i e; cases h; subst e; exact along_any b r W hE hz
 split at h
 ·rename_i e; cases h; subst e; exact level_any b r W hE hz
 ·cases h
theorem ctab_none {k : Cs.Bs} {r : List Cs.Bs} (h : ctab k = none) : Dd.draftM (k :: r) = none := by
 unfold ctab at h
 unfold Dd.draftM
 split at h
 ·cases h
 split at h
 ·cases h
 split at h
 ·cases h
 split at h
 ·cases h
 split at h
 ·cases h
 ·simp [*]
theorem readDraft_any (b : Nat) (l : List Cs.Bs) (W : World) (hE : Env W) (h : Wz W b l) :
  Calls Tryz.prog 102 #[.pointer (some ⟨b, 0, none⟩)] W (Wo b W drval (Dd.draftE l)) := by
 have hg := h.g9
 have hbl := h.lt
 have kg := Bk.new W 130 zero17
 have hB0 := (Below.refl W.heap.size W).alloc (Nat.le_refl _) (.cells zero17 130)
 have hz0 := h.below hB0
 have HE0 := jQ (hE.step hB0)
 simp only [zero17] at kg hB0 hz0 HE0
 have HB0 := jQ (But.of (X := fun k => k = b) hB0)
 have HZ0 := jQ hz0
 have HK0 := jQ kg
 have hne : ¬ W.heap.size = b := by omega
 have HBL := jQ hbl
 clear h hE kg hB0 hz0 hbl
 go_enter Tryz.func102, Tryz.ntmps102
 go_wp2_with fail
 refine (callForms_any _).mono ?_
 rintro e w1 ⟨mb, hmb, rfl, hmap, hb1⟩
 have hne2 : mb ≠ b := by have := HZ0.o.lt; omega
 have HB1 := jQ (HB0.o.trans (But.of hb1))
 have HZ1 := jQ (HZ0.o.below hb1)
 have HE1 := jQ (HE0.o.step hb1)
 have HK1 := jQ (HK0.o.below hb1 HK0.o.lt)
 have HR := jQ (creader_any mb b l w1 hmap hne2 HZ1.o)
 clear hmap hb1 hmb
 go_wp2_with fail
 refine HR.o.mono ?_
 intro e w2 he
 rcases hs : tabW ctab l with _ | ⟨n, r⟩
 ·have HW := jQ (show Dd.draftE l = none by
   rcases l with _ | ⟨k, r⟩
   ·rfl
   ·unfold Dd.draftE
    rw [ctab_none (by rcases hk : ctab k with _ | n; rfl; simp [tabW, hk] at hs)]
    rfl)
  obtain ⟨rfl, hb⟩ := he.none_ hs
  clear he hs
  go_wp2_with fail
  exact ⟨rfl, Wo.no HW.o (HB1.o.trans hb)⟩
 ·obtain ⟨k, rfl, hk⟩ : ∃ k, l = k :: r ∧ ctab k = some n := by
   rcases l with _ | ⟨k, r'⟩
   ·cases hs
   ·rcases hk : ctab k with _ | m
    ·simp [tabW, hk] at hs
    ·simp [tabW, hk] at hs
     obtain ⟨rfl, rfl⟩ := hs
     exact ⟨k, rfl, hk⟩
  obtain ⟨rfl, hb, hz⟩ := he.some_ hs
  have HB2 := jQ (HB1.o.trans hb)
  have HZ2 := jQ hz
  have HE2 := jQ (HE1.o.but1 hb hg)
  have HK2 := jQ (hb.bk HK1.o hne)
  have HC := jQ (creads n k r hk b w2 HE2.o hz)
  have hent := centers n k hk
  clear he hb hz hs hk
  simp only [fnv]
  go_wp2_with fail
  refine HC.o.mono ?_
  intro e v3 he
  rcases hs : Dd.draftM (k :: r) with _ | ⟨d, r2⟩
  ·have HW := jQ (show Dd.draftE (k :: r) = none by unfold Dd.draftE; rw [hs]; rfl)
   obtain ⟨rfl, hb⟩ := he.none_ hs
   clear he hs
   go_wp2_with fail
   exact ⟨rfl, Wo.no HW.o (HB2.o.trans hb)⟩
  ·have HS := jQ (show Dd.draftE (k :: r) = (Dd.endW r2).bind fun q => some (d, q.2) by unfold Dd.draftE; rw [hs]; rfl)
   obtain ⟨rfl, hb, hz⟩ := he.some_ hs
   have hB3 := HB2.o.trans hb
   have hE3 := HE2.o.but1 hb hg
   have hK3 := hb.bk HK2.o hne
   have hbn := (Below.refl v3.heap.size v3).alloc (Nat.le_refl _) (.cells (drcells d).toArray 130)
   have hkd := Bk.new v3 130 (drcells d).toArray
   have hgd : W.heap.size < v3.heap.size := hK3.lt
   obtain ⟨w3, hw3⟩ : ∃ w3, v3.alloc (.cells (drcells d).toArray 130) = w3 := ⟨_, rfl⟩
   obtain ⟨gd, hgd2⟩ : ∃ gd, v3.heap.size = gd := ⟨_, rfl⟩
   have hz3 := hz.below hbn
   have HB3 := jQ (hw3 ▸ hB3.trans (But.of hbn))
   have HZ3 := jQ (hw3 ▸ hz3)
   have HE3 := jQ (hw3 ▸ hE3.step hbn)
   have HK3 := jQ (hw3 ▸ hK3.below hbn hK3.lt)
   have HD3 := jQ (hgd2 ▸ hw3 ▸ hkd)
   have hnd : ¬ gd = b := by have := HBL.o; omega
   have hgw : W.heap.size < gd := by omega
   have HX3 := jQ hw3
   clear he hb hz hB3 hE3 hK3 hbn hkd hz3 hgd hs hw3
   simp only [drval, drcells]
   go_wp2_with fail
   rw [show v3.alloc (.cells #[.string ⟨d.l.toArray⟩, .string ⟨d.o.toArray⟩, .string ⟨d.a.toArray⟩, .string ⟨d.b.toArray⟩, .int .u8 d.c.k, .int .i64 d.c.l, .int .i64 d.c.o, .int .i64 d.c.a, .int .i64 d.c.b, .int .i64 d.c.s, .int .i64 d.c.e, .int .i64 d.c.c.b, .int .i64 d.c.c.n, .int .i64 d.c.c.l, .int .i64 d.c.c.y, .int .i64 d.c.c.w, .int .i64 d.c.c.s] 130) = w3 from HX3.o]
   try rw [hgd2]
   clear hgd2
   refine (wend_any b r2 _ HZ3.o).mono ?_
   intro e v4 he
   rcases hs : Dd.endW r2 with _ | ⟨u, r3⟩
   ·have HW := jQ (show Dd.draftE (k :: r) = none by rw [HS.o, hs]; rfl)
    obtain ⟨rfl, hb⟩ := he.none_ hs
    clear he hs
    go_wp2_with fail
    exact ⟨rfl, Wo.no HW.o (HB3.o.trans hb)⟩
   ·have HW := jQ (show Dd.draftE (k :: r) = some (d, r3) by rw [HS.o, hs]; rfl)
    obtain ⟨rfl, hb, hz⟩ := he.some_ hs
    have HB4 := jQ (HB3.o.trans hb)
    have HZ4 := jQ hz
    have HK4 := jQ (hb.bk HK3.o hne)
    have HD4 := jQ (hb.bk HD3.o hnd)
    clear he hb hz hs
    simp only [uv]
    go_wp2_with (first | (refine wpList_load_row rfl 130 (.tmp 4) rfl gd rfl 130 _ (0, 0) _ HD4.o Tryz.underlying130 rfl (by kernel_rfl) ?_) | (refine wpList_store_row rfl 130 (.tmp 2) (.tmp 13) rfl W.heap.size _ rfl rfl 130 _ HK4.o (by kernel_rfl) rfl (by kernel_rfl) ?_))
    have hk := HK4.o.row (drcells d).toArray
    have hB := But.row (X := fun k => k = b ∨ k = W.heap.size) (g := W.heap.size) (HB4.o.mono (fun k h => .inl h)) (.inr rfl) (drcells d).toArray
    have hZ := HZ4.o.but (But.row (X := fun k => k = W.heap.size) (g := W.heap.size) (But.refl _ _) rfl (drcells d).toArray) (fun k hk e => by have := HBL.o; omega)
    refine bodyPost_ret (results_cell_row1 rfl _ _ W.heap.size 130 _ (0, 0) _ rfl hk Tryz.underlying130 rfl (by kernel_rfl)) rfl ?_
    exact Wo.yes (val := drval) HW.o ⟨hB.os, hB.tape, hB.output, hB.size, fun k h1 h2 => hB.block k h1 (by rintro (e | e) <;> omega)⟩ hZ
def Po (w : World) (i : Int) (e : Ending) (w' : World) : Prop := (e = if i < 0 then .panicked [pan 5] else .returned (.int .i64 i)) ∧ Below w.heap.size w w'
theorem placeTx_any (A : Option Addr) (c : Nat) (ys : List Cs.Bs) (s : Cs.Bs) (w : World) (hR : Rd w w.heap.size 1 A ys.length (wcells ys)) (hl : ys.length ≤ 1000000) :
  Calls Tryz.prog 160 #[.slice A ys.length c, .string ⟨s.toArray⟩, .func (.func 77) #[] #[]] w (Po w (Dd.idx ys s)) := by
 have H0 := jQ (namTx_any A c ys s w hR hl)
 obtain ⟨i, hi⟩ : ∃ i, Dd.idx ys s = i := ⟨_, rfl⟩
 rw [hi] at H0 ⊢
 clear hR hi
 by_cases h : i < 0
 ·have g0 : decide (i ≥ 0) = false := decide_eq_false (by omega)
  have N0 := jQ (need_no 5)
  have HP := jQ h
  clear h
  go_enter Tryz.func160, Tryz.ntmps160
  go_wp2_with fail
  refine H0.o.mono ?_
  rintro e w1 ⟨rfl, hb1⟩
  have HB1 := jQ hb1
  clear hb1
  go_wp2_with fail
  refine (N0.o _).mono ?_
  rintro e w2 ⟨rfl, hb2⟩
  go_wp2_with fail
  exact ⟨rfl, by rw [if_pos HP.o], HB1.o.trans (hb2.mono HB1.o.size)⟩
 ·have g0 : decide (i ≥ 0) = true := decide_eq_true (by omega)
  have N0 := jQ (need_yes 5)
  have HP := jQ h
  clear h
  go_enter Tryz.func160, Tryz.ntmps160
  go_wp2_with fail
  refine H0.o.mono ?_
  rintro e w1 ⟨rfl, hb1⟩
  have HB1 := jQ hb1
  clear hb1
  go_wp2_with fail
  refine (N0.o _).mono ?_
  rintro e w2 ⟨rfl, hb2⟩
  have HB2 := jQ (HB1.o.trans (hb2.mono HB1.o.size))
  clear hb2
  go_wp2_with fail
  go_ret
  exact ⟨(if_neg (show ¬ i < 0 by have := HP.o; omega)).symm, HB2.o⟩
theorem placeSt_any (A : Option Addr) (c : Nat) (ys : List (Cs.Bs × Int)) (s : Cs.Bs) (w : World) (hR : Rd w w.heap.size 2 A ys.length (scells ys)) (hl : ys.length ≤ 1000000) :
  Calls Tryz.prog 161 #[.slice A ys.length c, .string ⟨s.toArray⟩, .func (.func 75) #[] #[]] w (Po w (Dd.idx (ys.map (·.1)) s)) := by
 have H0 := jQ (namSt_any A c ys s w hR hl)
 obtain ⟨i, hi⟩ : ∃ i, Dd.idx (ys.map (·.1)) s = i := ⟨_, rfl⟩
 rw [hi] at H0 ⊢
 clear hR hi
 by_cases h : i < 0
 ·have g0 : decide (i ≥ 0) = false := decide_eq_false (by omega)
  have N0 := jQ (need_no 5)
  have HP := jQ h
  clear h
  go_enter Tryz.func161, Tryz.ntmps161
  go_wp2_with fail
  refine H0.o.mono ?_
  rintro e w1 ⟨rfl, hb1⟩
  have HB1 := jQ hb1
  clear hb1
  go_wp2_with fail
  refine (N0.o _).mono ?_
  rintro e w2 ⟨rfl, hb2⟩
  go_wp2_with fail
  exact ⟨rfl, by rw [if_pos HP.o], HB1.o.trans (hb2.mono HB1.o.size)⟩
 ·have g0 : decide (i ≥ 0) = true := decide_eq_true (by omega)
  have N0 := jQ (need_yes 5)
  have HP := jQ h
  clear h
  go_enter Tryz.func161, Tryz.ntmps161
  go_wp2_with fail
  refine H0.o.mono ?_
  rintro e w1 ⟨rfl, hb1⟩
  have HB1 := jQ hb1
  clear hb1
  go_wp2_with fail
  refine (N0.o _).mono ?_
  rintro e w2 ⟨rfl, hb2⟩
  have HB2 := jQ (HB1.o.trans (hb2.mono HB1.o.size))
  clear hb2
  go_wp2_with fail
  go_ret
  exact ⟨(if_neg (show ¬ i < 0 by have := HP.o; omega)).symm, HB2.o⟩
end

section
open Go.RowKit Go.Shelf
theorem assert_errno (x : TypeId) (v : Value) (w : World) : (Instr.typeAssert (.iface 31 v) x 31 false).run Tryz.prog w = .ok v w := by
 have hu := Tryz.underlying31
 simp [Instr.typeAssert, run_underlying hu, Result.andThen]
theorem tried1_panicking (g : Nat) (x : Value) (n : Int) (w : World) (hc : w.cell? ⟨g, 0, none⟩ = some x) (hf : w.frozen? ⟨g, 0, none⟩ = false) :
  CallsD Tryz.prog 153 #[.pointer (some ⟨g, 0, none⟩)] (.panicking [pan n]) w fun e u' w' =>
   e = .returned (.tuple #[]) ∧ u' = .panicking [{ v := .iface 31 (.int .i64 n), recovered := true }] ∧ w' = w.setCell ⟨g, 0, none⟩ (.int .i64 n) := by
 refine callsD_of_wpS Tryz.func153 rfl fun c₀ cs hu => ?_
 apply wpS_seq
 apply wpS_region
 simp [wpOpsS, go_sem, recoverD, hu, Tryz.ntmps153, Exit.thenS, pan]
 apply wpS_seq
 apply wpS_region
 simp [wpOpsS, go_sem, Exit.thenS, Array.replicate]
 refine wpS_cond (t := true) (by simp [Act.eval]) ?_
 simp only [if_true]
 apply wpS_region
 simp [wpOpsS, go_sem, hc, hf, bodyPostS, results, Tryz.results153, assert_errno]
theorem tried1_idle (g : Nat) (w : World) :
  CallsD Tryz.prog 153 #[.pointer (some ⟨g, 0, none⟩)] .returning w fun e u' w' => e = .returned (.tuple #[]) ∧ u' = .returning ∧ w' = w := by
 refine callsD_of_wpS Tryz.func153 rfl fun c₀ cs hu => ?_
 apply wpS_seq
 apply wpS_region
 simp [wpOpsS, go_sem, recoverD, hu, Tryz.ntmps153, Exit.thenS]
 apply wpS_seq
 apply wpS_region
 simp [wpOpsS, go_sem, Exit.thenS, Array.replicate]
 refine wpS_cond (t := false) (by simp [Act.eval]) ?_
 simp only [Bool.false_eq_true, if_false]
 refine wpS_of_wp (wp_skip ?_)
 cases c₀
 simp_all [bodyPostS, results, Tryz.results153]
def Lo (ok : World → Prop) (bad : Int → World → Prop) (e : Ending) (w' : World) : Prop := (e = .returned (.tuple #[]) ∧ ok w') ∨ ∃ n, e = .panicked [pan n] ∧ bad n w'
theorem tried_any (kf : Nat) (first capS : Array Value) (ok : World → Prop) (bad : Int → World → Prop) (w : World)
  (hc : ∀ W1, W1 = w.alloc (.cells #[.int .i64 0] 31) → Calls Tryz.prog kf (first ++ #[] ++ capS) W1 (Lo ok bad))
  (hok : ∀ W, ok W → Bk W w.heap.size 31 #[.int .i64 0]) (hbad : ∀ n W, bad n W → Bk W w.heap.size 31 #[.int .i64 0])
  (ef : ∀ args w, (callFunc kf args).run Tryz.prog w = .ok (.enter kf args) w) :
  Calls Tryz.prog 100 #[.func (.func kf) first capS] w fun e w' => ∃ W n, ((n = 0 ∧ ok W) ∨ bad n W) ∧ e = .returned (.int .i64 n) ∧ w' = W.setCell ⟨w.heap.size, 0, none⟩ (.int .i64 n) := by
 have hmf : ∀ (fn : Fn) (first cap : Array Value) (w : World), (Instr.makeFunc fn first cap).run Tryz.prog w = .ok (.func fn first cap) w := fun _ _ _ _ => rfl
 have HC := jQ (hc _ rfl)
 have HOK := jQ hok
 have HBAD := jQ hbad
 clear hc hok hbad
 go_enter_defers Tryz.func100, Tryz.ntmps100
 go_wp2_with fail
 refine HC.o.mono ?_
 rintro e w2 (⟨rfl, h⟩ | ⟨n, rfl, h⟩)
 ·have hk := HOK.o _ h
  have KE := jQ hk
  have HH := jQ h
  have c0 := (hk.cell 0).trans rfl
  have f0 := hk.frozen 0
  have l0 := hk.lt
  clear h hk
  simp only []
  go_wp2_with fail
  refine leaves_cons (f := 153) (args := #[.pointer (some ⟨w.heap.size, 0, none⟩)]) (by simp) (by simp [go_sem]) ?_
  refine (tried1_idle w.heap.size _).mono ?_
  rintro e u' w'' ⟨rfl, rfl, rfl⟩
  refine ⟨_, results_cell1 rfl _ _ w.heap.size _ rfl (((KE.o.set 0 (.int .i64 0)).cell 0).trans rfl) Tryz.isAgg31, ?_⟩
  exact ⟨w2, 0, .inl ⟨rfl, HH.o⟩, rfl, rfl⟩
 ·have hk := HBAD.o _ _ h
  have KE := jQ hk
  have HH := jQ h
  clear h hk
  simp only []
  refine leaves_cons (f := 153) (args := #[.pointer (some ⟨w.heap.size, 0, none⟩)]) (by simp) (by simp [go_sem]) ?_
  refine (tried1_panicking w.heap.size _ n _ ((KE.o.cell 0).trans rfl) (KE.o.frozen 0)).mono ?_
  rintro e u' w'' ⟨rfl, rfl, rfl⟩
  refine ⟨_, results_cell1 rfl _ _ w.heap.size _ rfl (((KE.o.set 0 (.int .i64 n)).cell 0).trans rfl) Tryz.isAgg31, ?_⟩
  exact ⟨w2, n, .inr HH.o, rfl, rfl⟩
end

section
open Go.RowKit
theorem isYear_any (y : Int) (w : World) : Calls Tryz.prog 98 #[.int .i64 y] w fun e w' => e = .returned (.bool (decide (1 ≤ y ∧ y ≤ 3000))) ∧ Below w.heap.size w w' := by
 have H0 := jQ (fun W => dbetween_any 1 y 3000 W)
 obtain ⟨R, hR⟩ : ∃ R, decide (1 ≤ y ∧ y ≤ 3000) = R := ⟨_, rfl⟩
 rw [hR] at H0 ⊢
 clear hR
 go_enter Tryz.func98, Tryz.ntmps98
 go_wp2_with fail
 refine (H0.o _).mono ?_
 rintro e w' ⟨rfl, rfl⟩
 go_wp2_with fail
 go_ret
 exact ⟨rfl, Below.refl _ _⟩
theorem blank_any (r : Int) (w : World) : Calls Tryz.prog 159 #[.int .i32 r] w fun e w' => e = .returned (.bool (r == 32)) ∧ w' = w := by
 go_enter Tryz.func159, Tryz.ntmps159
 go_wp2_with fail
 go_ret
 exact ⟨rfl, rfl⟩
theorem drewN_below (B : Nat) (w : World) (n : Nat) : Below B w (w.drewN n) := ⟨rfl, rfl, rfl, Nat.le_refl _, fun _ _ => rfl⟩
theorem wordsOf_any (s : Cs.Bs) (hs : s.length ≤ 999999) (w : World) (hE : Env w) :
  Calls Tryz.prog 103 #[.string ⟨s.toArray⟩] w fun e w' => ∃ b, w.heap.size ≤ b ∧ e = .returned (.pointer (some ⟨b, 0, none⟩)) ∧ Wz w' b (Dd.fieldsF s) ∧ Below w.heap.size w w' := by
 obtain ⟨m, hm⟩ := hE.mx
 have hg := hE.gl
 have HC := jQ (Tryz.strings_Cut ⟨s.toArray⟩ ⟨#[35]⟩ m w (by simp [ByteArray.size]; omega) hm)
 have hcut : (Lib.cut s [35]).1 = Dd.codeF s := Dd.cut_code s
 have hcl : (Dd.codeF s).length ≤ s.length := (List.takeWhile_prefix _).length_le
 have hsum := Dd.fields_sum s
 have hP : ∀ W, PredAtRunes Tryz.prog 159 #[] (fun r => decide (r = 32)) W := by
  intro W V x hx hb
  refine (blank_any (x : Int) _).mono ?_
  rintro e w' ⟨rfl, rfl⟩
  refine ⟨?_, 0, rfl⟩
  congr 2
  by_cases h : x = 32
  ·subst h; rfl
  ·have h2 : ¬ (x : Int) = 32 := by omega
   simp [h, h2]
 have HF := jQ (fun W => Tryz.strings_FieldsFunc_runes 159 #[] (enters_of Tryz.func159 (by kernel_rfl) rfl) (fun r => decide (r = 32)) ⟨(Dd.codeF s).toArray⟩ W (by simp [ByteArray.size]; omega) (hP W))
 have hgo : Lib.goFieldsP (fun r => decide (r = 32)) ⟨(Dd.codeF s).toArray⟩ = (Dd.fieldsF s).map Dd.bat := Dd.goFields_blank (Dd.codeF s)
 rw [hgo] at HF
 obtain ⟨X, hX⟩ : ∃ X, Lib.cut s [35] = X := ⟨_, rfl⟩
 rw [hX] at hcut
 simp only [] at HC
 rw [hX, hcut] at HC
 obtain ⟨FL, hFL⟩ : ∃ FL, Dd.fieldsF s = FL := ⟨_, rfl⟩
 rw [hFL] at HF hsum ⊢
 obtain ⟨CF, hCF⟩ : ∃ CF, Dd.codeF s = CF := ⟨_, rfl⟩
 rw [hCF] at HC HF
 simp only [List.length_map] at HF
 have HSUM := jQ hsum
 clear hgo hP hcut hX hFL hCF hcl hsum hm hE
 go_enter Tryz.func103, Tryz.ntmps103
 go_wp2_with fail
 refine HC.o.mono ?_
 rintro e w1 ⟨rfl, n, rfl⟩
 go_wp2_with fail
 refine (HF.o _).mono ?_
 rintro e w2 ⟨A, rfl, hA, hown, hb⟩
 have HB := jQ ((drewN_below w.heap.size w n).trans hb)
 have HO := jQ hown
 clear hown hb
 go_wp2_with fail
 go_ret
 refine ⟨w2.heap.size, HB.o.size, rfl, ⟨⟨some ⟨A, 0, none⟩, FL.length, ?_, ?_, Nat.le_refl _⟩, by have := HSUM.o; omega, by have := HB.o.size; omega⟩, HB.o.alloc HB.o.size _⟩
 ·exact Bk.new _ _ _
 ·obtain ⟨A', c', e1, hr, _⟩ := ownB_rd HO.o HO.o.1
  injection e1 with e2
  subst e2
  have hxs : (FL.map Dd.bat).map Value.string = wcells FL := by simp [wcells, sv, Dd.bat]
  rw [hxs] at hr
  exact hr.below ((Below.refl _ _).alloc (Nat.le_refl _) _) (Nat.le_refl _)
end

section
open Go.RowKit
def deval (d : Dd.De) (A : Option Addr) (c : Nat) : Value := .agg #[.string ⟨d.name.toArray⟩, .int .i64 d.year, .int .i64 d.rank, .slice A d.calls.length c]
theorem deval_def (d : Dd.De) (A : Option Addr) (c : Nat) : deval d A c = .agg #[.string ⟨d.name.toArray⟩, .int .i64 d.year, .int .i64 d.rank, .slice A d.calls.length c] := rfl
theorem isDated_any (d : Dd.De) (A : Option Addr) (c : Nat) (w : World) : Calls Tryz.prog 205 #[deval d A c] w fun e w' => e = .returned (.bool (Dd.dated d)) ∧ Below w.heap.size w w' := by
 have hd : Dd.dated d = (decide (1 ≤ d.year ∧ d.year ≤ 3000) && decide (0 ≤ d.rank ∧ d.rank ≤ 1000)) := rfl
 rw [hd, deval_def]
 obtain ⟨name, year, rank, calls⟩ := d
 dsimp only
 have H0 := jQ (fun W => isYear_any year W)
 have H1 := jQ (fun W => dbetween_any 0 rank 1000 W)
 have hB : ∀ o, Below w.heap.size w (w.alloc o) := fun o => (Below.refl _ _).alloc (Nat.le_refl _) o
 have K := jQ (fun W (hb : Below (w.heap.size + 1) (w.alloc (.cells #[.string ⟨name.toArray⟩, .int .i64 year, .int .i64 rank, .slice A calls.length c] 226)) W) => ((Bk.new w 226 #[.string ⟨name.toArray⟩, .int .i64 year, .int .i64 rank, .slice A calls.length c]).below hb (Nat.lt_succ_self _)).cell 2)
 have HB := jQ hB
 obtain ⟨y, hy⟩ : ∃ y, decide (1 ≤ year ∧ year ≤ 3000) = y := ⟨_, rfl⟩
 obtain ⟨z, hz⟩ : ∃ z, decide (0 ≤ rank ∧ rank ≤ 1000) = z := ⟨_, rfl⟩
 rw [hy] at H0 ⊢
 rw [hz] at H1 ⊢
 clear hy hz hB hd
 rcases y with _ | _
 ·go_enter Tryz.func205, Tryz.ntmps205
  go_wp2_with fail
  refine (H0.o _).mono ?_
  rintro e w1 ⟨rfl, hb⟩
  have HB1 := jQ ((HB.o _).trans (hb.mono (HB.o _).size))
  clear hb
  go_wp2_with fail
  go_ret
  exact ⟨rfl, HB1.o⟩
 ·go_enter Tryz.func205, Tryz.ntmps205
  go_wp2_with fail
  refine (H0.o _).mono ?_
  rintro e w1 ⟨rfl, hb⟩
  have HB1 := jQ ((HB.o _).trans (hb.mono (HB.o _).size))
  have c2 := (K.o _ (by simpa using hb)).trans rfl
  clear hb
  go_wp2_with fail
  refine (H1.o _).mono ?_
  rintro e w2 ⟨rfl, rfl⟩
  go_wp2_with fail
  go_ret
  exact ⟨rfl, HB1.o⟩
theorem deedName_any (d : Dd.De) (A : Option Addr) (c : Nat) (w : World) : Calls Tryz.prog 207 #[deval d A c] w fun e w' => e = .returned (.string ⟨d.name.toArray⟩) ∧ Below w.heap.size w w' := by
 rw [deval_def]
 have HB := jQ (fun o => (Below.refl w.heap.size w).alloc (Nat.le_refl _) o)
 go_enter Tryz.func207, Tryz.ntmps207
 go_wp2_with fail
 go_ret
 exact ⟨rfl, HB.o _⟩
end

section
open Go.RowKit
abbrev Dp : Type := Dd.De × Option Addr × Nat
def dcell (p : Dp) : List Value := [.string ⟨p.1.name.toArray⟩, .int .i64 p.1.year, .int .i64 p.1.rank, .slice p.2.1 p.1.calls.length p.2.2]
def dcells (l : List Dp) : List Value := l.flatMap dcell
theorem dcell_len (p : Dp) : (dcell p).length = 4 := rfl
theorem Rd.deed {w : World} {B : Nat} {A : Option Addr} {l : List Dp} (h : Rd w B 4 A l.length (dcells l)) {k : Nat} (hk : k < l.length) :
  ∃ b off, A = some ⟨b, off, none⟩ ∧ b < B ∧ w.cell? ⟨b, off + k * 4, none⟩ = some (.string ⟨l[k].1.name.toArray⟩) ∧ w.cell? ⟨b, off + k * 4 + 1, none⟩ = some (.int .i64 l[k].1.year) ∧
   w.cell? ⟨b, off + k * 4 + 2, none⟩ = some (.int .i64 l[k].1.rank) ∧ w.cell? ⟨b, off + k * 4 + 3, none⟩ = some (.slice l[k].2.1 l[k].1.calls.length l[k].2.2) := by
 obtain ⟨b, off, e, hb, hc⟩ := Rd.item (cell := dcell) h dcell_len hk
 exact ⟨b, off, e, hb, hc 0 (by decide), hc 1 (by decide), hc 2 (by decide), hc 3 (by decide)⟩
theorem ofDe_any (x : Dp) (w : World) : Calls Tryz.prog 207 #[.agg #[.string ⟨x.1.name.toArray⟩, .int .i64 x.1.year, .int .i64 x.1.rank, .slice x.2.1 x.1.calls.length x.2.2]] w fun e w' => e = .returned (.string ⟨x.1.name.toArray⟩) ∧ Below w.heap.size w w' :=
 deedName_any x.1 x.2.1 x.2.2 w
theorem idxDe_any (g : Nat) (cap : Array Value) (p : Dp → Bool) (A : Option Addr) (c : Nat) (ys : List (Dp)) (w : World) (hR : Rd w w.heap.size 4 A ys.length (dcells ys)) (hl : ys.length ≤ 1000000)
  (eg : ∀ args w, (callFunc g args).run Tryz.prog w = .ok (.enter g args) w)
  (hcl : ∀ x ∈ ys, ∀ W, Below w.heap.size w W → Calls Tryz.prog g (#[.agg #[.string ⟨x.1.name.toArray⟩, .int .i64 x.1.year, .int .i64 x.1.rank, .slice x.2.1 x.1.calls.length x.2.2]] ++ cap) W fun e w' => e = .returned (.bool (p x)) ∧ Below W.heap.size W w') :
  Calls Tryz.prog 238 #[.slice A ys.length c, .func (.func g) #[] cap] w fun e w' => e = .returned (.int .i64 (Dd.idxP p ys 0)) ∧ Below w.heap.size w w' := by
 have HCL := jQ hcl
 have HR := jQ hR
 clear hcl hR
 go_enter Tryz.func238, Tryz.ntmps238
 go_wp2_with fail
 go_loopw [8] (fun I wr => ∃ k : Nat, k ≤ ys.length ∧ I = .int .i64 k ∧ (∀ j (h : j < ys.length), j < k → p ys[j] = false) ∧ Below w.heap.size w wr) (fun I _ => ys.length - (intOf I).toNat)
 case atStart => exact ⟨0, Nat.zero_le _, rfl, fun j h hj => absurd hj (by omega), Below.refl _ _⟩
 case round =>
  obtain ⟨k, hk, rfl, ha, hB⟩ := hrel
  have HA := jQ ha
  have HB := jQ hB
  clear ha
  by_cases hlt : k < ys.length
  ·obtain ⟨b, off, rfl, hb, e0, e1, e2, e3⟩ := (HR.o.below hB (Nat.le_refl _)).deed hlt
   have hc := HCL.o _ (List.getElem_mem hlt) wr hB
   have hb2 : b < wr.heap.size := Nat.lt_of_lt_of_le hb hB.size
   obtain ⟨x, hx⟩ : ∃ x, ys[k] = x := ⟨_, rfl⟩
   rw [hx] at e0 e1 e2 e3 hc
   have HX := jQ hx
   have HC := jQ hc
   rcases hp : p x with _ | _
   ·rw [hp] at hc
    have HP := jQ hp
    have HC := jQ hc
    clear hc hp hx hB
    go_wp2_with fail
    refine HC.o.mono ?_
    rintro e w2 ⟨rfl, hb3⟩
    have HB2 := jQ (HB.o.trans (hb3.mono HB.o.size))
    clear hb3
    go_wp2_with fail
    go_roundw
    case rel =>
     refine ⟨k + 1, by omega, by go_num, fun j h hj => ?_, HB2.o⟩
     by_cases e : j = k
     ·subst e
      rw [HX.o]
      exact HP.o
     ·exact HA.o j h (by omega)
    case measure => simp [intOf]; omega
   ·rw [hp] at hc
    have hres : Dd.idxP p ys 0 = k := Dd.idxP_at hlt (by rw [hx]; exact hp) (fun j hj => HA.o j (by omega) hj)
    have HRES := jQ hres
    have HC := jQ hc
    clear hc hp hx hB hres
    go_wp2_with fail
    refine HC.o.mono ?_
    rintro e w2 ⟨rfl, hb3⟩
    have HB2 := jQ (HB.o.trans (hb3.mono HB.o.size))
    clear hb3
    go_wp2_with fail
    go_ret
    exact ⟨ret_int HRES.o.symm, HB2.o⟩
  ·have hres : Dd.idxP p ys 0 = -1 := Dd.idxP_no (fun j h => HA.o j h (by omega))
   have HRES := jQ hres
   obtain rfl : k = ys.length := by omega
   clear hres hB
   go_wp2_with fail
   go_ret
   exact ⟨ret_int HRES.o.symm, HB.o⟩
theorem namDe1_any (x : Dp) (s : Cs.Bs) (g g2 : Nat) (w : World) (hc : w.cell? ⟨g, 0, none⟩ = some (.func (.func 207) #[] #[])) (hg : g < w.heap.size) (hc2 : w.cell? ⟨g2, 0, none⟩ = some (.string ⟨s.toArray⟩)) (hg2 : g2 < w.heap.size) :
  Calls Tryz.prog 239 #[.agg #[.string ⟨x.1.name.toArray⟩, .int .i64 x.1.year, .int .i64 x.1.rank, .slice x.2.1 x.1.calls.length x.2.2], .pointer (some ⟨g, 0, none⟩), .pointer (some ⟨g2, 0, none⟩)] w fun e w' => e = .returned (.bool (decide (x.1.name = s))) ∧ Below w.heap.size w w' := by
 have eg := enters_of Tryz.func207 (by kernel_rfl) rfl
 have HO := jQ fun W => ofDe_any x W
 have hcc := fun (W : World) (h : Below w.heap.size w W) => (h.cell (p := ⟨g2, 0, none⟩) hg2).trans hc2
 have hcg := fun (W : World) (h : Below w.heap.size w W) => (h.cell (p := ⟨g, 0, none⟩) hg).trans hc
 have hB := (Below.refl w.heap.size w).alloc (Nat.le_refl _) (.cells #[.string ⟨x.1.name.toArray⟩, .int .i64 x.1.year, .int .i64 x.1.rank, .slice x.2.1 x.1.calls.length x.2.2] 226)
 have kx := Bk.new w 226 #[.string ⟨x.1.name.toArray⟩, .int .i64 x.1.year, .int .i64 x.1.rank, .slice x.2.1 x.1.calls.length x.2.2]
 obtain ⟨W, hW⟩ : ∃ W, w.alloc (.cells #[.string ⟨x.1.name.toArray⟩, .int .i64 x.1.year, .int .i64 x.1.rank, .slice x.2.1 x.1.calls.length x.2.2] 226) = W := ⟨_, rfl⟩
 obtain ⟨gx, hgx⟩ : ∃ n, w.heap.size = n := ⟨_, rfl⟩
 have HSB := jQ (show ∀ V, Below W.heap.size W V → (V.cell? ⟨g, 0, none⟩ = some (.func (.func 207) #[] #[]) ∧ V.cell? ⟨g2, 0, none⟩ = some (.string ⟨s.toArray⟩)) ∧ (V.cell? ⟨w.heap.size, 0, none⟩ = some (.string ⟨x.1.name.toArray⟩) ∧ V.cell? ⟨w.heap.size, 1, none⟩ = some (.int .i64 x.1.year)) ∧ (V.cell? ⟨w.heap.size, 2, none⟩ = some (.int .i64 x.1.rank) ∧ V.cell? ⟨w.heap.size, 3, none⟩ = some (.slice x.2.1 x.1.calls.length x.2.2)) from fun V h => by
  subst hW
  have h2 : Below w.heap.size w V := hB.trans (h.mono hB.size)
  exact ⟨⟨hcg V h2, hcc V h2⟩, ⟨((kx.below h kx.lt).cell 0).trans rfl, ((kx.below h kx.lt).cell 1).trans rfl⟩, ((kx.below h kx.lt).cell 2).trans rfl, ((kx.below h kx.lt).cell 3).trans rfl⟩)
 rw [hgx] at HSB
 have HB := jQ (hW ▸ hB)
 have hbZ : Below W.heap.size W W.drew := (Below.refl _ _).drew
 clear hcc hcg hB hc hc2 kx
 go_enter Tryz.func239, Tryz.ntmps239
 go_upto_region 1 with fail
 try rw [hW]
 try rw [hgx]
 go_region_held3 (fun V => (V.cell? ⟨g, 0, none⟩ = some (.func (.func 207) #[] #[]) ∧ V.cell? ⟨g2, 0, none⟩ = some (.string ⟨s.toArray⟩)) ∧ (V.cell? ⟨gx, 0, none⟩ = some (.string ⟨x.1.name.toArray⟩) ∧ V.cell? ⟨gx, 1, none⟩ = some (.int .i64 x.1.year)) ∧ (V.cell? ⟨gx, 2, none⟩ = some (.int .i64 x.1.rank) ∧ V.cell? ⟨gx, 3, none⟩ = some (.slice x.2.1 x.1.calls.length x.2.2)))
  (first
   | ((try dsimp only); first | (with_reducible exact HSB.o _ hbC) | (with_reducible exact HSB.o _ hbZ)))
  (first
   | (go_at_call 207; refine (HO.o _).mono ?_; rintro e wC ⟨rfl, hbc⟩; have hbC : Below W.heap.size W wC := hbZ.trans (hbc.mono hbZ.size)))
 all_goals
  go_wp2_with fail
  go_ret
  refine ⟨ret_bool ?_, HB.o.trans (hbC.mono HB.o.size)⟩
  rw [Bool.eq_iff_iff]
  simp
theorem namDe_any (A : Option Addr) (c : Nat) (ys : List (Dp)) (s : Cs.Bs) (w : World) (hR : Rd w w.heap.size 4 A ys.length (dcells ys)) (hl : ys.length ≤ 1000000) :
  Calls Tryz.prog 206 #[.slice A ys.length c, .string ⟨s.toArray⟩, .func (.func 207) #[] #[]] w fun e w' => e = .returned (.int .i64 (Dd.idx (ys.map (·.1.name)) s)) ∧ Below w.heap.size w w' := by
 have hmf : ∀ (fn : Fn) (first cap : Array Value) (w : World), (Instr.makeFunc fn first cap).run Tryz.prog w = .ok (.func fn first cap) w := fun _ _ _ _ => rfl
 have kn := (Bk.new w 9 #[.string ⟨s.toArray⟩]).alloc (.cells #[.func (.func 207) #[] #[]] 229)
 have ko := Bk.new (w.alloc (.cells #[.string ⟨s.toArray⟩] 9)) 229 #[.func (.func 207) #[] #[]]
 rw [World.size_alloc] at ko
 have hB := ((Below.refl w.heap.size w).alloc (Nat.le_refl _) (.cells #[.string ⟨s.toArray⟩] 9)).alloc (by simp) (.cells #[.func (.func 207) #[] #[]] 229)
 have hix := idxDe_any 239 #[.pointer (some ⟨w.heap.size + 1, 0, none⟩), .pointer (some ⟨w.heap.size, 0, none⟩)] (fun x => decide (x.1.name = s)) A c ys _ ((hR.below hB (Nat.le_refl _)).more hB.size) hl (enters_of Tryz.func239 (by kernel_rfl) rfl)
  (fun x hx W hb => namDe1_any x s (w.heap.size + 1) w.heap.size W (((ko.below hb ko.lt).cell 0).trans rfl) (ko.below hb ko.lt).lt (((kn.below hb kn.lt).cell 0).trans rfl) (kn.below hb kn.lt).lt)
 have hres : Dd.idx (ys.map (·.1.name)) s = Dd.idxP (fun x => decide (x.1.name = s)) ys 0 := Dd.idxP_map _ _ ys 0
 rw [hres]
 obtain ⟨z, hz⟩ : ∃ z, Dd.idxP (fun x : Dp => decide (x.1.name = s)) ys 0 = z := ⟨_, rfl⟩
 rw [hz] at hix ⊢
 have HC := jQ hix
 have HB := jQ hB
 clear hix kn ko hB hz hres hR hl
 go_enter Tryz.func206, Tryz.ntmps206
 go_wp2_with fail
 refine HC.o.mono ?_
 rintro e w1 ⟨rfl, hb⟩
 have HB2 := jQ (HB.o.trans (hb.mono HB.o.size))
 clear hb
 go_wp2_with fail
 go_ret
 exact ⟨rfl, HB2.o⟩
end
end Go.Proofs.YtccikcpcfdjobaaGreatDoor
