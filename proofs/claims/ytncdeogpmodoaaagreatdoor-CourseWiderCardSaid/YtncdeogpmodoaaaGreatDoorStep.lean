/-
  checkEast, checkStep, Sector, misfit, Misfit, Fits of course.
-/
import Derived.Test.YtncdeogpmodoaaaGreatDoorGate
import Derived.Test.YtncdeogpmodoaaaGreatDoorMis
set_option linter.unusedVariables false
set_option linter.unusedSimpArgs false
namespace Go.Proofs.YtncdeogpmodoaaaGreatDoor
open Go.RowKit
set_option maxRecDepth 100000

set_option maxHeartbeats 2000000 in
theorem checkEast_any (A A2 : Option Addr) (c c2 : Nat) (vs : List (Int × Int)) (cs : List Cs.Co) (dx : Int) (w : World) (hR : Rd w w.heap.size 2 A vs.length (vcells vs)) (hl : vs.length ≤ 1000000)
    (hC : Rd w w.heap.size 6 A2 cs.length (ccells cs)) (hlc : cs.length ≤ 1000000) :
    Calls Tryz.prog 73 #[.slice A vs.length c, .int .i64 dx, .slice A2 cs.length c2] w fun e w' => e = .returned (.int .i64 (Cs.eastE vs cs dx)) ∧ Below w.heap.size w w' := by
  have hck := check_any A A2 c c2 vs cs w hR hl hC hlc
  clear hR hC
  by_cases hs : Cs.checkE vs cs = 0
  · have he : Cs.eastE vs cs dx = if dx = 0 ∨ dx < -100000 ∨ 100000 < dx then 1 else 0 := by rw [Cs.eastE, if_neg (by rw [hs]; simp)]
    rw [he]
    rw [hs] at hck
    have HCK := Lib.hid hck
    clear hck hs he
    by_cases h0 : dx = 0
    · rw [if_pos (Or.inl h0)]
      go_enter Tryz.func73, Tryz.ntmps73
      go_wp2_with fail
      refine HCK.out.mono ?_
      rintro e w1 ⟨rfl, hb1⟩
      go_wp2_with fail
      go_ret
      exact ⟨rfl, hb1⟩
    · have hd0 : (dx == 0) = false := by simp [h0]
      by_cases h1 : -100000 ≤ dx ∧ dx ≤ 100000
      · rw [if_neg (by omega)]
        have d1 : decide (-100000 ≤ dx ∧ dx ≤ 100000) = true := decide_eq_true h1
        clear h1
        go_enter Tryz.func73, Tryz.ntmps73
        go_wp2_with fail
        refine HCK.out.mono ?_
        rintro e w1 ⟨rfl, hb1⟩
        go_wp2_with (go_at_call 61; refine (between_any _ _ _ _).mono ?_; rw [d1]; rintro e w' ⟨rfl, rfl⟩)
        go_ret
        exact ⟨rfl, hb1⟩
      · rw [if_pos (by omega)]
        have d1 : decide (-100000 ≤ dx ∧ dx ≤ 100000) = false := decide_eq_false h1
        clear h1
        go_enter Tryz.func73, Tryz.ntmps73
        go_wp2_with fail
        refine HCK.out.mono ?_
        rintro e w1 ⟨rfl, hb1⟩
        go_wp2_with (go_at_call 61; refine (between_any _ _ _ _).mono ?_; rw [d1]; rintro e w' ⟨rfl, rfl⟩)
        go_ret
        exact ⟨rfl, hb1⟩
  · have he : Cs.eastE vs cs dx = Cs.checkE vs cs := by rw [Cs.eastE, if_pos hs]
    rw [he]
    have hne : (Cs.checkE vs cs != 0) = true := by simp [hs]
    obtain ⟨s, hss⟩ : ∃ s, Cs.checkE vs cs = s := ⟨_, rfl⟩
    rw [hss] at hck hne ⊢
    have HCK := Lib.hid hck
    clear hck hs hss he
    go_enter Tryz.func73, Tryz.ntmps73
    go_wp2_with fail
    refine HCK.out.mono ?_
    rintro e w1 ⟨rfl, hb1⟩
    go_wp2_with fail
    go_ret
    exact ⟨rfl, hb1⟩

theorem ccells_one (co : Cs.Co) : ccells [co] = ccell co := by simp [ccells]
/-- A slice literal of one course. -/
theorem rd_one (w : World) (t : TypeId) (co : Cs.Co) : Rd (w.alloc (.cells #[.int .i64 co.b, .int .i64 co.n, .int .i64 co.l, .int .i64 co.y, .int .i64 co.w, .int .i64 co.s] t)) (w.heap.size + 1) 6 (some ⟨w.heap.size, 0, none⟩) [co].length (ccells [co]) := by
  rw [ccells_one]
  refine ⟨rfl, fun _ => ⟨w.heap.size, 0, rfl, by omega, fun j hj => ?_⟩⟩
  have := (Bk.new w t #[.int .i64 co.b, .int .i64 co.n, .int .i64 co.l, .int .i64 co.y, .int .i64 co.w, .int .i64 co.s]).cell (0 + j)
  rw [this]
  simp only [List.length_singleton] at hj
  rcases (by omega : j = 0 ∨ j = 1 ∨ j = 2 ∨ j = 3 ∨ j = 4 ∨ j = 5) with rfl | rfl | rfl | rfl | rfl | rfl <;> rfl

set_option maxHeartbeats 2000000 in
theorem checkStep_any (A : Option Addr) (c : Nat) (vs : List (Int × Int)) (co : Cs.Co) (dx dy : Int) (w : World) (hR : Rd w w.heap.size 2 A vs.length (vcells vs)) (hl : vs.length ≤ 1000000) :
    Calls Tryz.prog 68 #[.slice A vs.length c, cval co, .int .i64 dx, .int .i64 dy] w fun e w' => e = .returned (.int .i64 (Cs.stepE vs co dx dy)) ∧ Below w.heap.size w w' := by
  have hea := fun A2 w (h : Rd w w.heap.size 2 A vs.length (vcells vs)) hC => checkEast_any A A2 c 1 vs [co] dx w h hl hC (by simp)
  have hfr : ∀ t, Rd ((w.alloc (.cells #[.int .i64 co.b, .int .i64 co.n, .int .i64 co.l, .int .i64 co.y, .int .i64 co.w, .int .i64 co.s] 29)).alloc
      (.cells #[.int .i64 co.b, .int .i64 co.n, .int .i64 co.l, .int .i64 co.y, .int .i64 co.w, .int .i64 co.s] t))
      ((w.alloc (.cells #[.int .i64 co.b, .int .i64 co.n, .int .i64 co.l, .int .i64 co.y, .int .i64 co.w, .int .i64 co.s] 29)).alloc
      (.cells #[.int .i64 co.b, .int .i64 co.n, .int .i64 co.l, .int .i64 co.y, .int .i64 co.w, .int .i64 co.s] t)).heap.size 6 (some ⟨w.heap.size + 1, 0, none⟩) [co].length (ccells [co]) := fun t => by
    have := rd_one (w.alloc (.cells #[.int .i64 co.b, .int .i64 co.n, .int .i64 co.l, .int .i64 co.y, .int .i64 co.w, .int .i64 co.s] 29)) t co
    rw [World.size_alloc] at this
    rw [World.size_alloc, World.size_alloc]
    exact this
  have hbl : ∀ o o2, Below w.heap.size w ((w.alloc o).alloc o2) := fun o o2 => ((Below.refl _ _).alloc (Nat.le_refl _) _).alloc (by simp) _
  have hrd : ∀ o o2, Rd ((w.alloc o).alloc o2) ((w.alloc o).alloc o2).heap.size 2 A vs.length (vcells vs) := fun o o2 => (hR.below (hbl o o2) (Nat.le_refl _)).more (hbl o o2).size
  have HFR := Lib.hid hfr
  have HBL := Lib.hid hbl
  have HRD := Lib.hid hrd
  clear hfr hbl hrd hR
  by_cases hs : Cs.eastE vs [co] dx = 0
  · have he : Cs.stepE vs co dx dy = if dy < -100000 ∨ 100000 < dy then 1 else 0 := by rw [Cs.stepE, if_neg (by rw [hs]; simp)]
    rw [he]
    rw [hs] at hea
    have HEA := Lib.hid hea
    clear hea hs he
    by_cases h1 : -100000 ≤ dy ∧ dy ≤ 100000
    · rw [if_neg (by omega)]
      have d1 : decide (-100000 ≤ dy ∧ dy ≤ 100000) = true := decide_eq_true h1
      clear h1
      show Calls Tryz.prog 68 #[.slice A vs.length c, .agg #[.int .i64 co.b, .int .i64 co.n, .int .i64 co.l, .int .i64 co.y, .int .i64 co.w, .int .i64 co.s], .int .i64 dx, .int .i64 dy] w _
      go_enter Tryz.func68, Tryz.ntmps68
      go_wp2_with fail
      refine (HEA.out _ _ (HRD.out _ _) (HFR.out _)).mono ?_
      rintro e w1 ⟨rfl, hb1⟩
      have HB1 := Lib.hid ((HBL.out _ _).trans (hb1.mono (HBL.out _ _).size))
      clear hb1
      go_wp2_with (go_at_call 61; refine (between_any _ _ _ _).mono ?_; rw [d1]; rintro e w' ⟨rfl, rfl⟩)
      go_ret
      exact ⟨rfl, HB1.out⟩
    · rw [if_pos (by omega)]
      have d1 : decide (-100000 ≤ dy ∧ dy ≤ 100000) = false := decide_eq_false h1
      clear h1
      show Calls Tryz.prog 68 #[.slice A vs.length c, .agg #[.int .i64 co.b, .int .i64 co.n, .int .i64 co.l, .int .i64 co.y, .int .i64 co.w, .int .i64 co.s], .int .i64 dx, .int .i64 dy] w _
      go_enter Tryz.func68, Tryz.ntmps68
      go_wp2_with fail
      refine (HEA.out _ _ (HRD.out _ _) (HFR.out _)).mono ?_
      rintro e w1 ⟨rfl, hb1⟩
      have HB1 := Lib.hid ((HBL.out _ _).trans (hb1.mono (HBL.out _ _).size))
      clear hb1
      go_wp2_with (go_at_call 61; refine (between_any _ _ _ _).mono ?_; rw [d1]; rintro e w' ⟨rfl, rfl⟩)
      go_ret
      exact ⟨rfl, HB1.out⟩
  · have he : Cs.stepE vs co dx dy = Cs.eastE vs [co] dx := by rw [Cs.stepE, if_pos hs]
    rw [he]
    have hne : (Cs.eastE vs [co] dx != 0) = true := by simp [hs]
    obtain ⟨s, hss⟩ : ∃ s, Cs.eastE vs [co] dx = s := ⟨_, rfl⟩
    rw [hss] at hea hne ⊢
    have HEA := Lib.hid hea
    clear hea hs hss he
    show Calls Tryz.prog 68 #[.slice A vs.length c, .agg #[.int .i64 co.b, .int .i64 co.n, .int .i64 co.l, .int .i64 co.y, .int .i64 co.w, .int .i64 co.s], .int .i64 dx, .int .i64 dy] w _
    go_enter Tryz.func68, Tryz.ntmps68
    go_wp2_with fail
    refine (HEA.out _ _ (HRD.out _ _) (HFR.out _)).mono ?_
    rintro e w1 ⟨rfl, hb1⟩
    have HB1 := Lib.hid ((HBL.out _ _).trans (hb1.mono (HBL.out _ _).size))
    clear hb1
    go_wp2_with fail
    go_ret
    exact ⟨rfl, HB1.out⟩

/-- Where check finds no error with a course, it is in order. -/
theorem Cs.checkE_one {vs : List (Int × Int)} {co : Cs.Co} (h : Cs.checkE vs [co] = 0) : Cs.courseOk co = true := by
  rcases hc : Cs.courseOk co with _ | _
  · by_cases hv : Cs.varsE vs = 0
    · rw [Cs.checkE_course (cs := [co]) hv (k := 0) (by simp) hc] at h
      cases h
    · rw [Cs.checkE_vars hv] at h
      exact absurd h hv
  · rfl
theorem Cs.eastE_zero {vs : List (Int × Int)} {cs : List Cs.Co} {dx : Int} (h : Cs.eastE vs cs dx = 0) : Cs.checkE vs cs = 0 ∧ dx ≠ 0 ∧ -100000 ≤ dx ∧ dx ≤ 100000 := by
  unfold Cs.eastE at h
  split at h
  · rename_i hn; exact absurd h hn
  · rename_i hn
    split at h
    · cases h
    · omega
theorem Cs.stepE_zero {vs : List (Int × Int)} {co : Cs.Co} {dx dy : Int} (h : Cs.stepE vs co dx dy = 0) : Cs.courseOk co = true ∧ dx ≠ 0 ∧ -100000 ≤ dx ∧ dx ≤ 100000 ∧ -100000 ≤ dy ∧ dy ≤ 100000 := by
  unfold Cs.stepE at h
  split at h
  · rename_i hn; exact absurd h hn
  · rename_i hn
    obtain ⟨h1, h2, h3, h4⟩ := Cs.eastE_zero (Decidable.not_not.1 hn)
    split at h
    · cases h
    · exact ⟨Cs.checkE_one h1, h2, h3, h4, by omega, by omega⟩

set_option maxHeartbeats 2000000 in
theorem misfit_any (A : Option Addr) (c : Nat) (vs : List (Int × Int)) (co : Cs.Co) (dx dy : Int) (w : World) (hs : Sn w) (hR : Rd w w.heap.size 2 A vs.length (vcells vs)) (hl : vs.length ≤ 1000000) (hco : Cs.courseOk co = true)
    (hx : -100000 ≤ dx ∧ dx ≤ 100000) (hy : -100000 ≤ dy ∧ dy ≤ 100000) :
    Calls Tryz.prog 69 #[.slice A vs.length c, cval co, .int .i64 dx, .int .i64 dy] w fun e w' => e = .returned (.int .u8 (Cs.misF vs co dx dy)) ∧ Below w.heap.size w w' := by
  have hae := fun w h => aimEast_any A c vs co dx w h hl hco
  rw [show cval co = .agg #[.int .i64 co.b, .int .i64 co.n, .int .i64 co.l, .int .i64 co.y, .int .i64 co.w, .int .i64 co.s] from rfl] at hae
  obtain ⟨hff, hnn⟩ : (0 ≤ (Cs.aimEast vs co dx).far * (Cs.aimEast vs co dx).far ∧ (Cs.aimEast vs co dx).far * (Cs.aimEast vs co dx).far ≤ 1144900000000000000) ∧
      (0 ≤ (Cs.aimEast vs co dx).near * (Cs.aimEast vs co dx).near ∧ (Cs.aimEast vs co dx).near * (Cs.aimEast vs co dx).near ≤ 1144900000000000000) := by
    have ok := Cs.aimEast_ok vs hco dx
    have := ok.near0
    have := ok.nf
    have := ok.far1
    have h1 := Cs.sq_range (x := (Cs.aimEast vs co dx).far) (m := 1070000000) (by omega) (by omega)
    have h2 := Cs.sq_range (x := (Cs.aimEast vs co dx).near) (m := 1070000000) (by omega) (by omega)
    exact ⟨⟨h1.1, h1.2⟩, ⟨h2.1, h2.2⟩⟩
  have hB0 := (Below.refl w.heap.size w).alloc (Nat.le_refl _) (.cells #[.int .i64 co.b, .int .i64 co.n, .int .i64 co.l, .int .i64 co.y, .int .i64 co.w, .int .i64 co.s] 29)
  have HRD := Lib.hid ((hR.below hB0 (Nat.le_refl _)).more hB0.size)
  have HB0 := Lib.hid hB0
  have HS := Lib.hid hs
  clear hB0 hs hR
  by_cases hd : dx < 0
  · have hr : Cs.misF vs co dx dy = Cs.misA (Cs.aimEast vs co dx) (-dx) (-dy) := by rw [Cs.misF, if_pos hd]
    rw [hr]
    have hma := fun w h => misA_any (Cs.aimEast vs co dx) (-dx) (-dy) w h (by omega) (by omega) hff hnn
    obtain ⟨r, hrr⟩ : ∃ r, Cs.misA (Cs.aimEast vs co dx) (-dx) (-dy) = r := ⟨_, rfl⟩
    rw [hrr] at hma ⊢
    obtain ⟨am, ham⟩ : ∃ q, Cs.aimEast vs co dx = q := ⟨_, rfl⟩
    simp only [ham] at hae hma
    obtain ⟨al, ah, an, af⟩ := am
    have hav : aval ⟨al, ah, an, af⟩ = .agg #[.int .i64 al, .int .i64 ah, .int .i64 an, .int .i64 af] := rfl
    rw [hav] at hae hma
    have HAE := Lib.hid hae
    have HMA := Lib.hid hma
    clear hae hma hr hrr ham hav hff hnn
    show Calls Tryz.prog 69 #[.slice A vs.length c, .agg #[.int .i64 co.b, .int .i64 co.n, .int .i64 co.l, .int .i64 co.y, .int .i64 co.w, .int .i64 co.s], .int .i64 dx, .int .i64 dy] w _
    go_enter Tryz.func69, Tryz.ntmps69
    go_wp2_with fail
    refine (HAE.out _ HRD.out).mono ?_
    rintro e w1 ⟨rfl, hb1⟩
    have hB1 := HB0.out.trans (hb1.mono HB0.out.size)
    have hB2 := hB1.alloc hB1.size (.cells #[.int .i64 al, .int .i64 ah, .int .i64 an, .int .i64 af] 83)
    have HS2 := Lib.hid (HS.out.step hB2)
    have HB2 := Lib.hid hB2
    clear hb1 hB1 hB2
    go_wp2_with fail
    refine (HMA.out _ HS2.out).mono ?_
    rintro e w2 ⟨rfl, hb2⟩
    have HB3 := Lib.hid (HB2.out.trans (hb2.mono HB2.out.size))
    clear hb2
    go_wp2_with fail
    go_ret
    exact ⟨rfl, HB3.out⟩
  · have hr : Cs.misF vs co dx dy = Cs.misA (Cs.aimEast vs co dx) (dx) (dy) := by rw [Cs.misF, if_neg hd]
    rw [hr]
    have hma := fun w h => misA_any (Cs.aimEast vs co dx) (dx) (dy) w h (by omega) (by omega) hff hnn
    obtain ⟨r, hrr⟩ : ∃ r, Cs.misA (Cs.aimEast vs co dx) (dx) (dy) = r := ⟨_, rfl⟩
    rw [hrr] at hma ⊢
    obtain ⟨am, ham⟩ : ∃ q, Cs.aimEast vs co dx = q := ⟨_, rfl⟩
    simp only [ham] at hae hma
    obtain ⟨al, ah, an, af⟩ := am
    have hav : aval ⟨al, ah, an, af⟩ = .agg #[.int .i64 al, .int .i64 ah, .int .i64 an, .int .i64 af] := rfl
    rw [hav] at hae hma
    have HAE := Lib.hid hae
    have HMA := Lib.hid hma
    clear hae hma hr hrr ham hav hff hnn
    show Calls Tryz.prog 69 #[.slice A vs.length c, .agg #[.int .i64 co.b, .int .i64 co.n, .int .i64 co.l, .int .i64 co.y, .int .i64 co.w, .int .i64 co.s], .int .i64 dx, .int .i64 dy] w _
    go_enter Tryz.func69, Tryz.ntmps69
    go_wp2_with fail
    refine (HAE.out _ HRD.out).mono ?_
    rintro e w1 ⟨rfl, hb1⟩
    have hB1 := HB0.out.trans (hb1.mono HB0.out.size)
    have hB2 := hB1.alloc hB1.size (.cells #[.int .i64 al, .int .i64 ah, .int .i64 an, .int .i64 af] 83)
    have HS2 := Lib.hid (HS.out.step hB2)
    have HB2 := Lib.hid hB2
    clear hb1 hB1 hB2
    go_wp2_with fail
    refine (HMA.out _ HS2.out).mono ?_
    rintro e w2 ⟨rfl, hb2⟩
    have HB3 := Lib.hid (HB2.out.trans (hb2.mono HB2.out.size))
    clear hb2
    go_wp2_with fail
    go_ret
    exact ⟨rfl, HB3.out⟩

end Go.Proofs.YtncdeogpmodoaaaGreatDoor
