/-
  True of course and of the reference: the ends of the true length as two fractions.
-/
import Derived.Test.YtncdeogpmodoaaaGreatDoorDec
import Derived.Test.YtncdeogpmodoaaaGreatDoorFra
set_option linter.unusedVariables false
set_option linter.unusedSimpArgs false
namespace Go.Proofs.YtncdeogpmodoaaaGreatDoor
open Go.RowKit
set_option maxRecDepth 100000

theorem results_cells2_tmp {P : Program} {fn : Func} {p p2 q : Tmp} {ty : TypeId} (h : fn.results = #[.cell p ty, .cell p2 ty, .tmp q]) (tmps : Array Value) (w : World) (g g2 : Nat) (t t2 : TypeId) (cs cs2 : Array Value) (fr fr2 : Nat × Nat) (d : TypeDesc) (v : Value)
    (hp : tmps.getD p undef = .pointer (some ⟨g, 0, none⟩)) (hp2 : tmps.getD p2 undef = .pointer (some ⟨g2, 0, none⟩)) (hq : tmps.getD q undef = v) (hg : w.heap[g]? = some (.cells cs t fr)) (hg2 : w.heap[g2]? = some (.cells cs2 t2 fr2))
    (hu : P.underlying ty = some d) (hd : (match d with | .struct _ | .array _ _ => true | _ => false) = true) (hi : (P.info? ty).map (·.size) = some cs.size) (hi2 : (P.info? ty).map (·.size) = some cs2.size) :
    (results fn tmps).run P w = .ok (.tuple #[.agg cs, .agg cs2, v]) w := by
  have hp' : tmps[p]?.getD undef = .pointer (some ⟨g, 0, none⟩) := by simpa using hp
  have hp2' : tmps[p2]?.getD undef = .pointer (some ⟨g2, 0, none⟩) := by simpa using hp2
  have hq' : tmps[q]?.getD undef = v := by simpa using hq
  simp [results, h, hp', hp2', hq', asAddr, run_loadVar_row w g t ty cs fr d hg hu hd hi, run_loadVar_row w g2 t2 ty cs2 fr2 d hg2 hu hd hi2]

/-- What True returns. -/
def truV (a s l : Int) : Value :=
  if Cs.chainOk a s ∧ 1 ≤ l ∧ l ≤ 100000 then .tuple #[fval (l * (10000 + a - s)).toNat 10000, fval (l * (10000 + a + s)).toNat 10000, .int .i64 0]
  else .tuple #[.agg #[.int .i64 0, .int .i64 0], .agg #[.int .i64 0, .int .i64 0], .int .i64 1]

/-- Two new fractions, written. -/
theorem two_fracs (w W : World) (g : Nat) (hg : w.heap.size ≤ g) (h1 : Bk W g 32 #[.int .i64 0, .int .i64 0]) (h2 : Bk W (g + 1) 32 #[.int .i64 0, .int .i64 0]) (hB : Below w.heap.size w W) (x y z u : Value) :
    Bk ((((W.setCell ⟨g, 0, none⟩ x).setCell ⟨g, 1, none⟩ y).setCell ⟨g + 1, 0, none⟩ z).setCell ⟨g + 1, 1, none⟩ u) g 32 #[x, y] ∧
    Bk ((((W.setCell ⟨g, 0, none⟩ x).setCell ⟨g, 1, none⟩ y).setCell ⟨g + 1, 0, none⟩ z).setCell ⟨g + 1, 1, none⟩ u) (g + 1) 32 #[z, u] ∧
    Below w.heap.size w ((((W.setCell ⟨g, 0, none⟩ x).setCell ⟨g, 1, none⟩ y).setCell ⟨g + 1, 0, none⟩ z).setCell ⟨g + 1, 1, none⟩ u) := by
  refine ⟨(((h1.set 0 x).set 1 y).far (by simp) z).far (by simp) u, ?_, ?_⟩
  · exact (((h2.far (p := ⟨g, 0, none⟩) (by simp) x).far (p := ⟨g, 1, none⟩) (by simp) y).set 0 z).set 1 u
  · exact (((hB.setCell (p := ⟨g, 0, none⟩) hg x).setCell (p := ⟨g, 1, none⟩) hg y).setCell (p := ⟨g + 1, 0, none⟩) (by simp; omega) z).setCell (p := ⟨g + 1, 1, none⟩) (by simp; omega) u

set_option maxHeartbeats 4000000 in
theorem True_any (a s l : Int) (w : World) :
    Calls Tryz.prog 27 #[.agg #[.int .i64 a, .int .i64 s], .int .i64 l] w fun e w' => e = .returned (truV a s l) ∧ Below w.heap.size w w' := by
  have hB0 := (((Below.refl w.heap.size w).alloc (Nat.le_refl _) (.cells #[.int .i64 a, .int .i64 s] 27)).alloc (by simp) (.cells #[.int .i64 0, .int .i64 0] 32)).alloc (by simp; omega) (.cells #[.int .i64 0, .int .i64 0] 32)
  have kC := ((Bk.new w 27 #[.int .i64 a, .int .i64 s]).alloc (.cells #[.int .i64 0, .int .i64 0] 32)).alloc (.cells #[.int .i64 0, .int .i64 0] 32)
  have kX := (Bk.new (w.alloc (.cells #[.int .i64 a, .int .i64 s] 27)) 32 #[.int .i64 0, .int .i64 0]).alloc (.cells #[.int .i64 0, .int .i64 0] 32)
  have kY := Bk.new ((w.alloc (.cells #[.int .i64 a, .int .i64 s] 27)).alloc (.cells #[.int .i64 0, .int .i64 0] 32)) 32 #[.int .i64 0, .int .i64 0]
  simp only [World.size_alloc] at kX kY
  have hcc := fun w => checkChain_any a s w
  rcases hok : Cs.chainOk a s with _ | _
  · have hr : truV a s l = .tuple #[.agg #[.int .i64 0, .int .i64 0], .agg #[.int .i64 0, .int .i64 0], .int .i64 1] := by rw [truV, if_neg (by rw [hok]; simp)]
    have he : Cs.chainE a s = 1 := by rw [Cs.chainE, if_neg (by rw [hok]; simp)]
    rw [hr]
    rw [he] at hcc
    have HCC := Lib.hid hcc
    have HB0 := Lib.hid hB0
    have KX := Lib.hid kX
    have KY := Lib.hid kY
    clear hcc he hr hok hB0 kX kY
    have c0 := (kC.cell 0).trans rfl
    have c1 := (kC.cell 1).trans rfl
    have lc := kC.lt
    clear kC
    go_enter Tryz.func27, Tryz.ntmps27
    go_wp2_with fail
    refine (HCC.out _).mono ?_
    rintro e w1 ⟨rfl, hb1⟩
    have kx := KX.out.below hb1 (by simp)
    have ky := KY.out.below hb1 (by simp)
    have HR := Lib.hid (two_fracs w w1 (w.heap.size + 1) (by omega) kx ky (HB0.out.trans (hb1.mono HB0.out.size)) (.int .i64 0) (.int .i64 0) (.int .i64 0) (.int .i64 0))
    have z0 := (kx.cell 0).trans rfl
    have z1 := (kx.cell 1).trans rfl
    have f0 := kx.frozen 0
    have f1 := kx.frozen 1
    have y0 := (ky.cell 0).trans rfl
    have y1 := (ky.cell 1).trans rfl
    have g0 := ky.frozen 0
    have g1 := ky.frozen 1
    have lx := kx.lt
    have ly := ky.lt
    clear kx ky hb1
    go_wp2_with fail
    exact bodyPost_ret (results_cells2_tmp rfl _ _ (w.heap.size + 1) (w.heap.size + 1 + 1) 32 32 _ _ (0, 0) (0, 0) _ _ rfl rfl rfl HR.out.1 HR.out.2.1 Tryz.underlying32 rfl (by kernel_rfl) (by kernel_rfl)) rfl ⟨rfl, HR.out.2.2⟩
  · have he : Cs.chainE a s = 0 := by rw [Cs.chainE, if_pos hok]
    rw [he] at hcc
    have HCC := Lib.hid hcc
    have HB0 := Lib.hid hB0
    have KX := Lib.hid kX
    have KY := Lib.hid kY
    have c0 := (kC.cell 0).trans rfl
    have c1 := (kC.cell 1).trans rfl
    have lc := kC.lt
    have KC := Lib.hid kC
    clear hcc he hB0 kX kY kC
    by_cases hl : 1 ≤ l ∧ l ≤ 100000
    · obtain ⟨r1, r2, r3, r4⟩ : -500 ≤ a ∧ a ≤ 500 ∧ 0 ≤ s ∧ s ≤ 200 := by simpa [Cs.chainOk] using hok
      have hr : truV a s l = .tuple #[fval (l * (10000 + a - s)).toNat 10000, fval (l * (10000 + a + s)).toNat 10000, .int .i64 0] := by rw [truV, if_pos ⟨hok, hl⟩]
      rw [hr]
      have hen := fun w => ends_any a s l w ⟨r1, r2⟩ ⟨r3, r4⟩ hl
      have n0 : 0 < l * (10000 + a - s) := Int.mul_pos (by omega) (by omega)
      have n1 : l * (10000 + a - s) ≤ 100000 * 10500 := Int.mul_le_mul hl.2 (by omega) (by omega) (by omega)
      have m0 : 0 < l * (10000 + a + s) := Int.mul_pos (by omega) (by omega)
      have m1 : l * (10000 + a + s) ≤ 100000 * 10700 := Int.mul_le_mul hl.2 (by omega) (by omega) (by omega)
      obtain ⟨N, hN⟩ : ∃ N : Nat, l * (10000 + a - s) = N := ⟨(l * (10000 + a - s)).toNat, by omega⟩
      obtain ⟨M, hM⟩ : ∃ M : Nat, l * (10000 + a + s) = M := ⟨(l * (10000 + a + s)).toNat, by omega⟩
      simp only [hN, hM, Int.toNat_natCast] at hen n0 n1 m0 m1 ⊢
      have hlo1 := fun w => lowest_any N 10000 (by omega) (by omega) (by omega) (by omega) w
      have hlo2 := fun w => lowest_any M 10000 (by omega) (by omega) (by omega) (by omega) w
      have e1 : fval N 10000 = .agg #[.int .i64 ((N / Nat.gcd N 10000 : Nat) : Int), .int .i64 ((10000 / Nat.gcd N 10000 : Nat) : Int)] := rfl
      have e2 : fval M 10000 = .agg #[.int .i64 ((M / Nat.gcd M 10000 : Nat) : Int), .int .i64 ((10000 / Nat.gcd M 10000 : Nat) : Int)] := rfl
      rw [e1] at hlo1 ⊢
      rw [e2] at hlo2 ⊢
      obtain ⟨x, hx⟩ : ∃ x : Int, ((N / Nat.gcd N 10000 : Nat) : Int) = x := ⟨_, rfl⟩
      obtain ⟨y, hy⟩ : ∃ x : Int, ((10000 / Nat.gcd N 10000 : Nat) : Int) = x := ⟨_, rfl⟩
      obtain ⟨z, hz⟩ : ∃ x : Int, ((M / Nat.gcd M 10000 : Nat) : Int) = x := ⟨_, rfl⟩
      obtain ⟨u, hu⟩ : ∃ x : Int, ((10000 / Nat.gcd M 10000 : Nat) : Int) = x := ⟨_, rfl⟩
      simp only [hx, hy, hz, hu] at hlo1 hlo2 ⊢
      have hd : decide (1 ≤ l ∧ l ≤ 100000) = true := decide_eq_true hl
      have HEN := Lib.hid hen
      have HL1 := Lib.hid hlo1
      have HL2 := Lib.hid hlo2
      have HD := Lib.hid hd
      clear hen hlo1 hlo2 hd hr e1 e2 hx hy hz hu hN hM hok hl n0 n1 m0 m1
      go_enter Tryz.func27, Tryz.ntmps27
      go_wp2_with fail
      refine (HCC.out _).mono ?_
      rintro e w1 ⟨rfl, hb1⟩
      have hB1 := HB0.out.trans (hb1.mono HB0.out.size)
      have kc := KC.out.below hb1 (by simp; omega)
      have HKX := Lib.hid (KX.out.below hb1 (by simp))
      have HKY := Lib.hid (KY.out.below hb1 (by simp))
      have HB1 := Lib.hid hB1
      clear hb1 hB1 c0 c1 lc
      have c0 := (kc.cell 0).trans rfl
      have c1 := (kc.cell 1).trans rfl
      have lc := kc.lt
      clear kc
      go_wp2_with (go_at_call 61; refine (between_any _ _ _ _).mono ?_; rw [HD.out]; rintro e w' ⟨rfl, rfl⟩)
      refine (HEN.out _).mono ?_
      rintro e w2 ⟨rfl, hb2⟩
      have HB2 := Lib.hid (HB1.out.trans (hb2.mono HB1.out.size))
      have HKX2 := Lib.hid (HKX.out.below hb2 HKX.out.lt)
      have HKY2 := Lib.hid (HKY.out.below hb2 HKY.out.lt)
      clear hb2 c0 c1 lc HKX HKY HB1
      go_wp2_with fail
      refine (HL1.out _).mono ?_
      rintro e w3 ⟨rfl, hb3⟩
      have HB3 := Lib.hid (HB2.out.trans (hb3.mono HB2.out.size))
      have HKX3 := Lib.hid (HKX2.out.below hb3 HKX2.out.lt)
      have HKY3 := Lib.hid (HKY2.out.below hb3 HKY2.out.lt)
      clear hb3 HKX2 HKY2 HB2
      go_wp2_with fail
      refine (HL2.out _).mono ?_
      rintro e w4 ⟨rfl, hb4⟩
      have kx := HKX3.out.below hb4 HKX3.out.lt
      have ky := HKY3.out.below hb4 HKY3.out.lt
      have HR := Lib.hid (two_fracs w w4 (w.heap.size + 1) (by omega) kx ky (HB3.out.trans (hb4.mono HB3.out.size)) (.int .i64 x) (.int .i64 y) (.int .i64 z) (.int .i64 u))
      have z0 := (kx.cell 0).trans rfl
      have z1 := (kx.cell 1).trans rfl
      have f0 := kx.frozen 0
      have f1 := kx.frozen 1
      have y0 := (ky.cell 0).trans rfl
      have y1 := (ky.cell 1).trans rfl
      have g0 := ky.frozen 0
      have g1 := ky.frozen 1
      have lx := kx.lt
      have ly := ky.lt
      clear kx ky hb4 HKX3 HKY3 HB3
      go_wp2_with fail
      exact bodyPost_ret (results_cells2_tmp rfl _ _ (w.heap.size + 1) (w.heap.size + 1 + 1) 32 32 _ _ (0, 0) (0, 0) _ _ rfl rfl rfl HR.out.1 HR.out.2.1 Tryz.underlying32 rfl (by kernel_rfl) (by kernel_rfl)) rfl ⟨rfl, HR.out.2.2⟩
    · have hr : truV a s l = .tuple #[.agg #[.int .i64 0, .int .i64 0], .agg #[.int .i64 0, .int .i64 0], .int .i64 1] := by rw [truV, if_neg (fun h => hl h.2)]
      rw [hr]
      have hd : decide (1 ≤ l ∧ l ≤ 100000) = false := decide_eq_false hl
      have HD := Lib.hid hd
      clear hd hr hl hok KC
      go_enter Tryz.func27, Tryz.ntmps27
      go_wp2_with fail
      refine (HCC.out _).mono ?_
      rintro e w1 ⟨rfl, hb1⟩
      have kx := KX.out.below hb1 (by simp)
      have ky := KY.out.below hb1 (by simp)
      have HR := Lib.hid (two_fracs w w1 (w.heap.size + 1) (by omega) kx ky (HB0.out.trans (hb1.mono HB0.out.size)) (.int .i64 0) (.int .i64 0) (.int .i64 0) (.int .i64 0))
      have z0 := (kx.cell 0).trans rfl
      have z1 := (kx.cell 1).trans rfl
      have f0 := kx.frozen 0
      have f1 := kx.frozen 1
      have y0 := (ky.cell 0).trans rfl
      have y1 := (ky.cell 1).trans rfl
      have g0 := ky.frozen 0
      have g1 := ky.frozen 1
      have lx := kx.lt
      have ly := ky.lt
      clear kx ky hb1 c0 c1 lc
      go_wp2_with (go_at_call 61; refine (between_any _ _ _ _).mono ?_; rw [HD.out]; rintro e w' ⟨rfl, rfl⟩)
      exact bodyPost_ret (results_cells2_tmp rfl _ _ (w.heap.size + 1) (w.heap.size + 1 + 1) 32 32 _ _ (0, 0) (0, 0) _ _ rfl rfl rfl HR.out.1 HR.out.2.1 Tryz.underlying32 rfl (by kernel_rfl) (by kernel_rfl)) rfl ⟨rfl, HR.out.2.2⟩

theorem two_far {W : World} {b g : Nat} {t : TypeId} {a s : Int} (k : Bk W b t #[.int .i64 a, .int .i64 s]) (h : b < g) (x y z u : Value) :
    ((((W.setCell ⟨g, 0, none⟩ x).setCell ⟨g, 1, none⟩ y).setCell ⟨g + 1, 0, none⟩ z).setCell ⟨g + 1, 1, none⟩ u).cell? ⟨b, 0, none⟩ = some (.int .i64 a) ∧
    ((((W.setCell ⟨g, 0, none⟩ x).setCell ⟨g, 1, none⟩ y).setCell ⟨g + 1, 0, none⟩ z).setCell ⟨g + 1, 1, none⟩ u).cell? ⟨b, 1, none⟩ = some (.int .i64 s) := by
  have k4 := (((k.far (p := ⟨g, 0, none⟩) (by simp; omega) x).far (p := ⟨g, 1, none⟩) (by simp; omega) y).far (p := ⟨g + 1, 0, none⟩) (by simp; omega) z).far (p := ⟨g + 1, 1, none⟩) (by simp; omega) u
  exact ⟨(k4.cell 0).trans rfl, (k4.cell 1).trans rfl⟩

set_option maxHeartbeats 4000000 in
theorem rTrue_any (a s l : Int) (w : World) :
    Calls Tryz.prog 28 #[.agg #[.int .i64 a, .int .i64 s], .int .i64 l] w fun e w' => e = .returned (truV a s l) ∧ Below w.heap.size w w' := by
  have hB0 := (((Below.refl w.heap.size w).alloc (Nat.le_refl _) (.cells #[.int .i64 a, .int .i64 s] 27)).alloc (by simp) (.cells #[.int .i64 0, .int .i64 0] 32)).alloc (by simp; omega) (.cells #[.int .i64 0, .int .i64 0] 32)
  have kC := ((Bk.new w 27 #[.int .i64 a, .int .i64 s]).alloc (.cells #[.int .i64 0, .int .i64 0] 32)).alloc (.cells #[.int .i64 0, .int .i64 0] 32)
  have kX := (Bk.new (w.alloc (.cells #[.int .i64 a, .int .i64 s] 27)) 32 #[.int .i64 0, .int .i64 0]).alloc (.cells #[.int .i64 0, .int .i64 0] 32)
  have kY := Bk.new ((w.alloc (.cells #[.int .i64 a, .int .i64 s] 27)).alloc (.cells #[.int .i64 0, .int .i64 0] 32)) 32 #[.int .i64 0, .int .i64 0]
  simp only [World.size_alloc] at kX kY
  have hcc := fun w => rcheckChain_any a s w
  have HB0 := Lib.hid hB0
  have KX := Lib.hid kX
  have KY := Lib.hid kY
  have c0 := (kC.cell 0).trans rfl
  have c1 := (kC.cell 1).trans rfl
  have lc := kC.lt
  have KC := Lib.hid kC
  clear hB0 kX kY kC
  rcases hok : Cs.chainOk a s with _ | _
  · have hr : truV a s l = .tuple #[.agg #[.int .i64 0, .int .i64 0], .agg #[.int .i64 0, .int .i64 0], .int .i64 1] := by rw [truV, if_neg (by rw [hok]; simp)]
    have he : Cs.chainE a s = 1 := by rw [Cs.chainE, if_neg (by rw [hok]; simp)]
    rw [hr]
    rw [he] at hcc
    have HCC := Lib.hid hcc
    clear hcc he hr hok KC
    go_enter Tryz.func28, Tryz.ntmps28
    go_wp2_with fail
    refine (HCC.out _).mono ?_
    rintro e w1 ⟨rfl, hb1⟩
    have kx := KX.out.below hb1 (by simp)
    have ky := KY.out.below hb1 (by simp)
    have HR := Lib.hid (two_fracs w w1 (w.heap.size + 1) (by omega) kx ky (HB0.out.trans (hb1.mono HB0.out.size)) (.int .i64 0) (.int .i64 0) (.int .i64 0) (.int .i64 0))
    have z0 := (kx.cell 0).trans rfl
    have z1 := (kx.cell 1).trans rfl
    have f0 := kx.frozen 0
    have f1 := kx.frozen 1
    have y0 := (ky.cell 0).trans rfl
    have y1 := (ky.cell 1).trans rfl
    have g0 := ky.frozen 0
    have g1 := ky.frozen 1
    have lx := kx.lt
    have ly := ky.lt
    clear kx ky hb1 c0 c1 lc
    go_wp2_with fail
    exact bodyPost_ret (results_cells2_tmp rfl _ _ (w.heap.size + 1) (w.heap.size + 1 + 1) 32 32 _ _ (0, 0) (0, 0) _ _ rfl rfl rfl HR.out.1 HR.out.2.1 Tryz.underlying32 rfl (by kernel_rfl) (by kernel_rfl)) rfl ⟨rfl, HR.out.2.2⟩
  · have he : Cs.chainE a s = 0 := by rw [Cs.chainE, if_pos hok]
    rw [he] at hcc
    have HCC := Lib.hid hcc
    clear hcc he
    by_cases hl : 1 ≤ l ∧ l ≤ 100000
    · obtain ⟨r1, r2, r3, r4⟩ : -500 ≤ a ∧ a ≤ 500 ∧ 0 ≤ s ∧ s ≤ 200 := by simpa [Cs.chainOk] using hok
      have hr : truV a s l = .tuple #[fval (l * (10000 + a - s)).toNat 10000, fval (l * (10000 + a + s)).toNat 10000, .int .i64 0] := by rw [truV, if_pos ⟨hok, hl⟩]
      rw [hr]
      have n0 : 0 < l * (10000 + a - s) := Int.mul_pos (by omega) (by omega)
      have n1 : l * (10000 + a - s) ≤ 100000 * 10500 := Int.mul_le_mul hl.2 (by omega) (by omega) (by omega)
      have m0 : 0 < l * (10000 + a + s) := Int.mul_pos (by omega) (by omega)
      have m1 : l * (10000 + a + s) ≤ 100000 * 10700 := Int.mul_le_mul hl.2 (by omega) (by omega) (by omega)
      obtain ⟨N, hN⟩ : ∃ N : Nat, l * (10000 + a - s) = N := ⟨(l * (10000 + a - s)).toNat, by omega⟩
      obtain ⟨M, hM⟩ : ∃ M : Nat, l * (10000 + a + s) = M := ⟨(l * (10000 + a + s)).toNat, by omega⟩
      have w1 : IntKind.i64.wrap (10000 + a) = 10000 + a := IntWalk.i64_in _ (by omega)
      have w2 : IntKind.i64.wrap (10000 + a - s) = 10000 + a - s := IntWalk.i64_in _ (by omega)
      have w3 : IntKind.i64.wrap (10000 + a + s) = 10000 + a + s := IntWalk.i64_in _ (by omega)
      have w4 : IntKind.i64.wrap (l * (10000 + a - s)) = (N : Int) := by rw [IntWalk.i64_in _ (by omega), hN]
      have w5 : IntKind.i64.wrap (l * (10000 + a + s)) = (M : Int) := by rw [IntWalk.i64_in _ (by omega), hM]
      simp only [hN, hM, Int.toNat_natCast] at n0 n1 m0 m1 ⊢
      have hlo1 : ∀ w, Calls Tryz.prog 64 #[.int .i64 (N : Int), .int .i64 10000] w _ := fun w => rfraction_any N 10000 (by omega) (by omega) (by omega) (by omega) w
      have hlo2 : ∀ w, Calls Tryz.prog 64 #[.int .i64 (M : Int), .int .i64 10000] w _ := fun w => rfraction_any M 10000 (by omega) (by omega) (by omega) (by omega) w
      have e1 : fval N 10000 = .agg #[.int .i64 ((N / Nat.gcd N 10000 : Nat) : Int), .int .i64 ((10000 / Nat.gcd N 10000 : Nat) : Int)] := rfl
      have e2 : fval M 10000 = .agg #[.int .i64 ((M / Nat.gcd M 10000 : Nat) : Int), .int .i64 ((10000 / Nat.gcd M 10000 : Nat) : Int)] := rfl
      rw [e1] at hlo1 ⊢
      rw [e2] at hlo2 ⊢
      obtain ⟨x, hx⟩ : ∃ x : Int, ((N / Nat.gcd N 10000 : Nat) : Int) = x := ⟨_, rfl⟩
      obtain ⟨y, hy⟩ : ∃ x : Int, ((10000 / Nat.gcd N 10000 : Nat) : Int) = x := ⟨_, rfl⟩
      obtain ⟨z, hz⟩ : ∃ x : Int, ((M / Nat.gcd M 10000 : Nat) : Int) = x := ⟨_, rfl⟩
      obtain ⟨u, hu⟩ : ∃ x : Int, ((10000 / Nat.gcd M 10000 : Nat) : Int) = x := ⟨_, rfl⟩
      simp only [hx, hy, hz, hu] at hlo1 hlo2 ⊢
      have HL1 := Lib.hid hlo1
      have HL2 := Lib.hid hlo2
      obtain ⟨l0, l1⟩ := hl
      have hg1 : (1 : Int) ≤ l := l0
      clear hlo1 hlo2 hr e1 e2 hx hy hz hu hN hM hok n0 n1 m0 m1
      have HW := Lib.hid (And.intro w1 (And.intro w2 (And.intro w3 (And.intro w4 w5))))
      clear w1 w2 w3 w4 w5
      go_enter Tryz.func28, Tryz.ntmps28
      go_wp2_with fail
      refine (HCC.out _).mono ?_
      rintro e w1 ⟨rfl, hb1⟩
      have hB1 := HB0.out.trans (hb1.mono HB0.out.size)
      have kc := KC.out.below hb1 (by simp; omega)
      have HKX := Lib.hid (KX.out.below hb1 (by simp))
      have HKY := Lib.hid (KY.out.below hb1 (by simp))
      have HB1 := Lib.hid hB1
      clear hb1 hB1 c0 c1 lc
      have c0 := (kc.cell 0).trans rfl
      have c1 := (kc.cell 1).trans rfl
      have lc := kc.lt
      have HKC := Lib.hid kc
      have HSB := Lib.hid (show ∀ W, Below w1.heap.size w1 W → W.cell? ⟨w.heap.size, 0, none⟩ = some (.int .i64 a) ∧ W.cell? ⟨w.heap.size, 1, none⟩ = some (.int .i64 s) from fun W hb => ⟨(hb.cell (p := ⟨w.heap.size, 0, none⟩) lc).trans c0, (hb.cell (p := ⟨w.heap.size, 1, none⟩) lc).trans c1⟩)
      clear kc
      go_wp2_with fail
      obtain ⟨v1, v2, v3, v4, v5⟩ := HW.out
      have hbZ : Below w1.heap.size w1 w1.drew := (Below.refl _ _).drew
      go_region_held3 (fun w' => w'.cell? ⟨w.heap.size, 0, none⟩ = some (.int .i64 a) ∧ w'.cell? ⟨w.heap.size, 1, none⟩ = some (.int .i64 s))
        (first
          | go_keep
          | ((try dsimp only); first | (with_reducible exact HSK.out _ _ _ _) | (with_reducible exact HSB.out _ hbD) | (with_reducible exact HSB.out _ hbC) | (with_reducible exact HSB.out _ hbZ)))
        (first
          | (go_at_call 64; (with_reducible refine (HL1.out _).mono ?_); rintro e wC ⟨rfl, hbc⟩; have hbC : Below w1.heap.size w1 wC := hbZ.trans (hbc.mono hbZ.size))
          | (go_at_call 64; (with_reducible refine (HL2.out _).mono ?_); rintro e wD ⟨rfl, hbd⟩; have hbD : Below w1.heap.size w1 wD := hbC.trans (hbd.mono hbC.size); have HSK := Lib.hid (two_far (HKC.out.below hbD lc) (Nat.lt_succ_self w.heap.size)); have kx := HKX.out.below hbD HKX.out.lt; have ky := HKY.out.below hbD HKY.out.lt; have z0 := (kx.cell 0).trans rfl; have z1 := (kx.cell 1).trans rfl; have f0 := kx.frozen 0; have f1 := kx.frozen 1; have y0 := (ky.cell 0).trans rfl; have y1 := (ky.cell 1).trans rfl; have g0 := ky.frozen 0; have g1 := ky.frozen 1; have lx := kx.lt; have ly := ky.lt; have HR := Lib.hid (two_fracs w wD (w.heap.size + 1) (by omega) kx ky (HB1.out.trans (hbD.mono HB1.out.size)) (.int .i64 x) (.int .i64 y) (.int .i64 z) (.int .i64 u)); clear kx ky))
      all_goals
        go_wp2_with fail
        exact bodyPost_ret (results_cells2_tmp rfl _ _ (w.heap.size + 1) (w.heap.size + 1 + 1) 32 32 _ _ (0, 0) (0, 0) _ _ rfl rfl rfl HR.out.1 HR.out.2.1 Tryz.underlying32 rfl (by kernel_rfl) (by kernel_rfl)) rfl ⟨rfl, HR.out.2.2⟩
    · have hr : truV a s l = .tuple #[.agg #[.int .i64 0, .int .i64 0], .agg #[.int .i64 0, .int .i64 0], .int .i64 1] := by rw [truV, if_neg (fun h => hl h.2)]
      rw [hr]
      clear hr hok KC
      rcases (show l < 1 ∨ (1 ≤ l ∧ 100000 < l) by omega) with hq | ⟨hq, hq2⟩
      · clear hl
        go_enter Tryz.func28, Tryz.ntmps28
        go_wp2_with fail
        refine (HCC.out _).mono ?_
        rintro e w1 ⟨rfl, hb1⟩
        have kx := KX.out.below hb1 (by simp)
        have ky := KY.out.below hb1 (by simp)
        have HR := Lib.hid (two_fracs w w1 (w.heap.size + 1) (by omega) kx ky (HB0.out.trans (hb1.mono HB0.out.size)) (.int .i64 0) (.int .i64 0) (.int .i64 0) (.int .i64 0))
        have z0 := (kx.cell 0).trans rfl
        have z1 := (kx.cell 1).trans rfl
        have f0 := kx.frozen 0
        have f1 := kx.frozen 1
        have y0 := (ky.cell 0).trans rfl
        have y1 := (ky.cell 1).trans rfl
        have g0 := ky.frozen 0
        have g1 := ky.frozen 1
        have lx := kx.lt
        have ly := ky.lt
        clear kx ky hb1 c0 c1 lc
        go_wp2_with fail
        exact bodyPost_ret (results_cells2_tmp rfl _ _ (w.heap.size + 1) (w.heap.size + 1 + 1) 32 32 _ _ (0, 0) (0, 0) _ _ rfl rfl rfl HR.out.1 HR.out.2.1 Tryz.underlying32 rfl (by kernel_rfl) (by kernel_rfl)) rfl ⟨rfl, HR.out.2.2⟩
      · clear hl
        go_enter Tryz.func28, Tryz.ntmps28
        go_wp2_with fail
        refine (HCC.out _).mono ?_
        rintro e w1 ⟨rfl, hb1⟩
        have kx := KX.out.below hb1 (by simp)
        have ky := KY.out.below hb1 (by simp)
        have HR := Lib.hid (two_fracs w w1 (w.heap.size + 1) (by omega) kx ky (HB0.out.trans (hb1.mono HB0.out.size)) (.int .i64 0) (.int .i64 0) (.int .i64 0) (.int .i64 0))
        have z0 := (kx.cell 0).trans rfl
        have z1 := (kx.cell 1).trans rfl
        have f0 := kx.frozen 0
        have f1 := kx.frozen 1
        have y0 := (ky.cell 0).trans rfl
        have y1 := (ky.cell 1).trans rfl
        have g0 := ky.frozen 0
        have g1 := ky.frozen 1
        have lx := kx.lt
        have ly := ky.lt
        clear kx ky hb1 c0 c1 lc
        go_wp2_with fail
        exact bodyPost_ret (results_cells2_tmp rfl _ _ (w.heap.size + 1) (w.heap.size + 1 + 1) 32 32 _ _ (0, 0) (0, 0) _ _ rfl rfl rfl HR.out.1 HR.out.2.1 Tryz.underlying32 rfl (by kernel_rfl) (by kernel_rfl)) rfl ⟨rfl, HR.out.2.2⟩

end Go.Proofs.YtncdeogpmodoaaaGreatDoor
