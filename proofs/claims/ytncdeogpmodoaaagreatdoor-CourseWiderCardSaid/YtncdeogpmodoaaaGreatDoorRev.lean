/-
  Reverse, Bounds of course.
-/
import Derived.Test.YtncdeogpmodoaaaGreatDoorNeed
set_option linter.unusedVariables false
set_option linter.unusedSimpArgs false
namespace Go.Proofs.YtncdeogpmodoaaaGreatDoor
open Go.RowKit
set_option maxRecDepth 100000

theorem results_cell_row_tmp {P : Program} {fn : Func} {p q : Tmp} {ty : TypeId} (h : fn.results = #[.cell p ty, .tmp q]) (tmps : Array Value) (w : World) (g : Nat) (t : TypeId) (cs : Array Value) (fr : Nat × Nat) (d : TypeDesc) (v : Value)
    (hp : tmps.getD p undef = .pointer (some ⟨g, 0, none⟩)) (hq : tmps.getD q undef = v) (hg : w.heap[g]? = some (.cells cs t fr))
    (hu : P.underlying ty = some d) (hd : (match d with | .struct _ | .array _ _ => true | _ => false) = true) (hi : (P.info? ty).map (·.size) = some cs.size) :
    (results fn tmps).run P w = .ok (.tuple #[.agg cs, v]) w := by
  have hp' : tmps[p]?.getD undef = .pointer (some ⟨g, 0, none⟩) := by simpa using hp
  have hq' : tmps[q]?.getD undef = v := by simpa using hq
  simp [results, h, hp', hq', asAddr, run_loadVar_row w g t ty cs fr d hg hu hd hi]

set_option maxHeartbeats 2000000 in
theorem Reverse_any (co : Cs.Co) (w : World) :
    Calls Tryz.prog 46 #[cval co] w fun e w' => e = .returned (.tuple #[cval (Cs.revF co).1, .int .i64 (Cs.revF co).2]) ∧ Below w.heap.size w w' := by
  have hcc := fun w => checkCourse_any co w
  rw [cval_def co] at hcc ⊢
  have hB0 := ((Below.refl w.heap.size w).alloc (Nat.le_refl _) (.cells #[.int .i64 co.b, .int .i64 co.n, .int .i64 co.l, .int .i64 co.y, .int .i64 co.w, .int .i64 co.s] 29)).alloc (by simp) (.cells #[.int .i64 0, .int .i64 0, .int .i64 0, .int .i64 0, .int .i64 0, .int .i64 0] 29)
  have kC := (Bk.new w 29 #[.int .i64 co.b, .int .i64 co.n, .int .i64 co.l, .int .i64 co.y, .int .i64 co.w, .int .i64 co.s]).alloc (.cells #[.int .i64 0, .int .i64 0, .int .i64 0, .int .i64 0, .int .i64 0, .int .i64 0] 29)
  have kZ := Bk.new (w.alloc (.cells #[.int .i64 co.b, .int .i64 co.n, .int .i64 co.l, .int .i64 co.y, .int .i64 co.w, .int .i64 co.s] 29)) 29 #[.int .i64 0, .int .i64 0, .int .i64 0, .int .i64 0, .int .i64 0, .int .i64 0]
  rw [World.size_alloc] at kZ
  have hfin : ∀ W, Bk W (w.heap.size + 1) 29 #[.int .i64 0, .int .i64 0, .int .i64 0, .int .i64 0, .int .i64 0, .int .i64 0] → Below w.heap.size w W → ∀ b n l y a s : Int,
      Bk ((((((W.setCell ⟨w.heap.size + 1, 0, none⟩ (.int .i64 b)).setCell ⟨w.heap.size + 1, 1, none⟩ (.int .i64 n)).setCell ⟨w.heap.size + 1, 2, none⟩ (.int .i64 l)).setCell ⟨w.heap.size + 1, 3, none⟩ (.int .i64 y)).setCell ⟨w.heap.size + 1, 4, none⟩ (.int .i64 a)).setCell ⟨w.heap.size + 1, 5, none⟩ (.int .i64 s)) (w.heap.size + 1) 29 #[.int .i64 b, .int .i64 n, .int .i64 l, .int .i64 y, .int .i64 a, .int .i64 s] ∧
      Below w.heap.size w ((((((W.setCell ⟨w.heap.size + 1, 0, none⟩ (.int .i64 b)).setCell ⟨w.heap.size + 1, 1, none⟩ (.int .i64 n)).setCell ⟨w.heap.size + 1, 2, none⟩ (.int .i64 l)).setCell ⟨w.heap.size + 1, 3, none⟩ (.int .i64 y)).setCell ⟨w.heap.size + 1, 4, none⟩ (.int .i64 a)).setCell ⟨w.heap.size + 1, 5, none⟩ (.int .i64 s)) := fun W h hB b n l y a s =>
    ⟨(((((h.set 0 _).set 1 _).set 2 _).set 3 _).set 4 _).set 5 _, ((((((hB.setCell (p := ⟨w.heap.size + 1, 0, none⟩) (by simp) _).setCell (p := ⟨w.heap.size + 1, 1, none⟩) (by simp) _).setCell (p := ⟨w.heap.size + 1, 2, none⟩) (by simp) _).setCell (p := ⟨w.heap.size + 1, 3, none⟩) (by simp) _).setCell (p := ⟨w.heap.size + 1, 4, none⟩) (by simp) _).setCell (p := ⟨w.heap.size + 1, 5, none⟩) (by simp) _)⟩
  have HFIN := Lib.hid hfin
  have HB0 := Lib.hid hB0
  have KC := Lib.hid kC
  have KZ := Lib.hid kZ
  clear hfin hB0 kC kZ
  rcases hok : Cs.courseOk co with _ | _
  · have hr : Cs.revF co = (⟨0, 0, 0, 0, 0, 0⟩, 1) := by rw [Cs.revF, if_neg (by rw [hok]; simp)]
    rw [hr]
    rw [Cs.courseE_not hok] at hcc
    have HCC := Lib.hid hcc
    clear hcc hr hok
    go_enter Tryz.func46, Tryz.ntmps46
    go_wp2_with fail
    refine (HCC.out _).mono ?_
    rintro e w1 ⟨rfl, hb1⟩
    have kz := KZ.out.below hb1 (by simp)
    have hB1 := HB0.out.trans (hb1.mono HB0.out.size)
    have HR := Lib.hid (HFIN.out _ kz hB1 0 0 0 0 0 0)
    have z0 := (kz.cell 0).trans rfl
    have z1 := (kz.cell 1).trans rfl
    have z2 := (kz.cell 2).trans rfl
    have z3 := (kz.cell 3).trans rfl
    have z4 := (kz.cell 4).trans rfl
    have z5 := (kz.cell 5).trans rfl
    have f0 := kz.frozen 0
    have f1 := kz.frozen 1
    have f2 := kz.frozen 2
    have f3 := kz.frozen 3
    have f4 := kz.frozen 4
    have f5 := kz.frozen 5
    have lz := kz.lt
    clear kz hb1 hB1
    go_wp2_with fail
    exact bodyPost_ret (results_cell_row_tmp rfl _ _ (w.heap.size + 1) 29 #[.int .i64 0, .int .i64 0, .int .i64 0, .int .i64 0, .int .i64 0, .int .i64 0] (0, 0) _ (.int .i64 1) rfl rfl HR.out.1 Tryz.underlying29 rfl (by kernel_rfl)) rfl ⟨rfl, HR.out.2⟩
  · have hr : Cs.revF co = (Cs.turn co, 0) := by rw [Cs.revF, if_pos hok]
    rw [hr]
    rw [Cs.courseE_of hok] at hcc
    obtain ⟨⟨b0, b1⟩, _⟩ := (Cs.courseOk_iff co).1 hok
    have hnm := fun w => norm_any (co.b + 180) w
    have htv : cval (Cs.turn co) = .agg #[.int .i64 (Cs.norm (co.b + 180)), .int .i64 co.n, .int .i64 co.l, .int .i64 co.y, .int .i64 co.w, .int .i64 co.s] := rfl
    rw [htv]
    obtain ⟨nb, hnb⟩ : ∃ q, Cs.norm (co.b + 180) = q := ⟨_, rfl⟩
    rw [hnb] at hnm ⊢
    have HCC := Lib.hid hcc
    have HNM := Lib.hid hnm
    clear hcc hr hok hnm htv hnb
    go_enter Tryz.func46, Tryz.ntmps46
    go_wp2_with fail
    refine (HCC.out _).mono ?_
    rintro e w1 ⟨rfl, hb1⟩
    have kz := KZ.out.below hb1 (by simp)
    have kc := KC.out.below hb1 (by simp; omega)
    have hB1 := HB0.out.trans (hb1.mono HB0.out.size)
    have HR := Lib.hid (HFIN.out (w1.setCell ⟨w.heap.size, 0, none⟩ (.int .i64 nb)) (kz.far (by simp) _) (hB1.setCell (p := ⟨w.heap.size, 0, none⟩) (Nat.le_refl _) _) nb co.n co.l co.y co.w co.s)
    have z0 := (kz.cell 0).trans rfl
    have z1 := (kz.cell 1).trans rfl
    have z2 := (kz.cell 2).trans rfl
    have z3 := (kz.cell 3).trans rfl
    have z4 := (kz.cell 4).trans rfl
    have z5 := (kz.cell 5).trans rfl
    have f0 := kz.frozen 0
    have f1 := kz.frozen 1
    have f2 := kz.frozen 2
    have f3 := kz.frozen 3
    have f4 := kz.frozen 4
    have f5 := kz.frozen 5
    have lz := kz.lt
    have c0 := (kc.cell 0).trans rfl
    have c1 := (kc.cell 1).trans rfl
    have c2 := (kc.cell 2).trans rfl
    have c3 := (kc.cell 3).trans rfl
    have c4 := (kc.cell 4).trans rfl
    have c5 := (kc.cell 5).trans rfl
    have g0 := kc.frozen 0
    have lc := kc.lt
    clear kz kc hb1 hB1
    go_wp2_with (go_at_call 15; refine (HNM.out _).mono ?_; rintro e w' ⟨rfl, rfl⟩)
    exact bodyPost_ret (results_cell_row_tmp rfl _ _ (w.heap.size + 1) 29 _ (0, 0) _ (.int .i64 0) rfl rfl HR.out.1 Tryz.underlying29 rfl (by kernel_rfl)) rfl ⟨rfl, HR.out.2⟩

set_option maxHeartbeats 2000000 in
theorem Bounds_no (A : Option Addr) (c : Nat) (vs : List (Int × Int)) (co : Cs.Co) (dx from_ to_ rec_ : Int) (w : World) (hs : Sn w) (hR : Rd w w.heap.size 2 A vs.length (vcells vs)) (hl : vs.length ≤ 1000000)
    (hno : (Cs.comF vs [co] dx).2 ≠ 0 ∨ (Cs.comF vs [co] dx).1.2.2 = false) :
    Calls Tryz.prog 52 #[.slice A vs.length c, cval co, .int .i64 dx, .int .i64 from_, .int .i64 to_, .int .i64 rec_] w fun e w' =>
      e = .returned (.tuple #[.slice none 0 0, .int .i64 (if (Cs.comF vs [co] dx).2 ≠ 0 then (Cs.comF vs [co] dx).2 else 5)]) ∧ Below w.heap.size w w' := by
  have hin := fun w hs h => Interval_any A c vs co dx w hs h hl
  rw [cval_def] at hin ⊢
  have hB0 := (Below.refl w.heap.size w).alloc (Nat.le_refl _) (.cells #[.int .i64 co.b, .int .i64 co.n, .int .i64 co.l, .int .i64 co.y, .int .i64 co.w, .int .i64 co.s] 29)
  have HRD := Lib.hid ((hR.below hB0 (Nat.le_refl _)).more hB0.size)
  have HS := Lib.hid (hs.step hB0)
  have HB0 := Lib.hid hB0
  obtain ⟨⟨⟨lo, hi, ok⟩, e⟩, hr⟩ : ∃ q, Cs.comF vs [co] dx = q := ⟨_, rfl⟩
  rw [hr] at hin hno ⊢
  dsimp only at hin hno ⊢
  have HIN := Lib.hid hin
  clear hin hr hB0 hs hR
  by_cases he : e = 0
  · obtain rfl : ok = false := by rcases hno with h | h <;> simp_all
    subst he
    rw [if_neg (by simp)]
    clear hno
    go_enter Tryz.func52, Tryz.ntmps52
    go_wp2_with fail
    refine (HIN.out _ HS.out HRD.out).mono ?_
    rintro e w1 ⟨rfl, hb1⟩
    have HB1 := Lib.hid (HB0.out.trans (hb1.mono HB0.out.size))
    clear hb1
    go_wp2_with fail
    go_ret2
    exact ⟨rfl, HB1.out⟩
  · rw [if_pos he]
    have hne : (e != 0) = true := by simp [he]
    clear hno he
    go_enter Tryz.func52, Tryz.ntmps52
    go_wp2_with fail
    refine (HIN.out _ HS.out HRD.out).mono ?_
    rintro e w1 ⟨rfl, hb1⟩
    have HB1 := Lib.hid (HB0.out.trans (hb1.mono HB0.out.size))
    clear hb1
    go_wp2_with fail
    go_ret2
    exact ⟨rfl, HB1.out⟩

set_option maxHeartbeats 2000000 in
theorem Bounds_yes (A : Option Addr) (c : Nat) (vs : List (Int × Int)) (co : Cs.Co) (dx from_ to_ rec_ lo hi : Int) (w : World) (hs : Sn w) (hR : Rd w w.heap.size 2 A vs.length (vcells vs)) (hl : vs.length ≤ 1000000)
    (hr : Cs.comF vs [co] dx = ((lo, hi, true), 0)) (hlo : -100000 ≤ lo ∧ lo ≤ 100000) :
    Calls Tryz.prog 52 #[.slice A vs.length c, cval co, .int .i64 dx, .int .i64 from_, .int .i64 to_, .int .i64 rec_] w fun e w' =>
      ∃ b t, e = .returned (.tuple #[.slice (some ⟨b, 0, none⟩) 2 2, .int .i64 0]) ∧ w.heap.size ≤ b ∧ Bk w' b t #[.int .i64 from_, .int .i64 to_, .int .i64 hi, .int .i64 rec_, .int .i64 to_, .int .i64 from_, .int .i64 (-lo), .int .i64 rec_] ∧ Below w.heap.size w w' := by
  have hin := fun w hs h => Interval_any A c vs co dx w hs h hl
  rw [cval_def] at hin ⊢
  have hB0 := (Below.refl w.heap.size w).alloc (Nat.le_refl _) (.cells #[.int .i64 co.b, .int .i64 co.n, .int .i64 co.l, .int .i64 co.y, .int .i64 co.w, .int .i64 co.s] 29)
  have HRD := Lib.hid ((hR.below hB0 (Nat.le_refl _)).more hB0.size)
  have HS := Lib.hid (hs.step hB0)
  have HB0 := Lib.hid hB0
  rw [hr] at hin
  dsimp only at hin
  have HIN := Lib.hid hin
  obtain ⟨l0, l1⟩ := hlo
  clear hin hr hB0 hs hR
  go_enter Tryz.func52, Tryz.ntmps52
  go_wp2_with fail
  refine (HIN.out _ HS.out HRD.out).mono ?_
  rintro e w1 ⟨rfl, hb1⟩
  have HB1 := Lib.hid (HB0.out.trans (hb1.mono HB0.out.size))
  clear hb1
  go_wp2_with fail
  go_ret2
  exact ⟨_, _, rfl, HB1.out.size, Bk.new _ _ _, HB1.out.alloc HB1.out.size _⟩

end Go.Proofs.YtncdeogpmodoaaaGreatDoor
