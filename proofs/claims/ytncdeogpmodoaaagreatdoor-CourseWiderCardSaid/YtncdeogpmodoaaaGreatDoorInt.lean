/-
  The interval of an aim.
-/
import Derived.Test.YtncdeogpmodoaaaGreatDoorFits
set_option linter.unusedVariables false
set_option linter.unusedSimpArgs false
namespace Go.Proofs.YtncdeogpmodoaaaGreatDoor
open Go.RowKit
set_option maxRecDepth 100000

namespace Cs
theorem intA_no {a : Aim} {dx : Int} (h : a.high ≤ 0 ∨ 180 ≤ a.low ∨ room a dx < 0) : intA a dx = (0, 0, false) := by rw [intA, if_pos h]
theorem intA_yes {a : Aim} {dx : Int} (h : ¬ (a.high ≤ 0 ∨ 180 ≤ a.low ∨ room a dx < 0)) : intA a dx = (lo3 a dx, hi3 a dx, decide (lo3 a dx ≤ hi3 a dx)) := by rw [intA, if_neg h]
end Cs

/-- Between the parts of interval: the aim's block, the table of sines, nothing old has turned. -/
structure IntP (w wx : World) (cs : Array Value) : Prop where
  below : Below w.heap.size w wx
  bk : Bk wx w.heap.size 83 cs
  sn : Sn wx
theorem IntP.step {w wx wy : World} {cs : Array Value} (h : IntP w wx cs) (hb : Below wx.heap.size wx wy) : IntP w wy cs := ⟨h.below.trans (hb.mono h.below.size), h.bk.below hb h.bk.lt, h.sn.step hb⟩
theorem IntP.drewN {w wx : World} {cs : Array Value} (h : IntP w wx cs) (n : Nat) : IntP w (wx.drewN n) cs := h.step (below_drewN (Below.refl _ _) n)
theorem ret3 {a b c d : Int} {p q : Bool} (h : a = b) (h2 : c = d) (h3 : p = q) : Ending.returned (.tuple #[.int .i64 a, .int .i64 c, .bool p]) = .returned (.tuple #[.int .i64 b, .int .i64 d, .bool q]) := by rw [h, h2, h3]
theorem vint {a b : Int} (h : a = b) : Value.int .i64 a = .int .i64 b := by rw [h]

set_option maxHeartbeats 8000000 in
theorem interval_yes (al ah an af : Int) (dx : Int) (w : World) (hs : Sn w) (ok : Cs.AimOk ⟨al, ah, an, af⟩) (hx : -100000 ≤ dx ∧ dx ≤ 100000) (r : Int) (hr : Cs.room ⟨al, ah, an, af⟩ dx = r) (n1 : 0 < ah) (n2 : al < 180) (n3 : 0 ≤ r) (r1 : r ≤ 11449000000) (hq : (af * af).tdiv 100000000 = r + dx * dx)
    (s0 : 0 ≤ af * af) (s1 : af * af ≤ 1144900000000000000) (t0 : 0 ≤ an * an) (t1 : an * an ≤ 1144900000000000000) (x0 : 0 ≤ dx * dx) (x1 : dx * dx ≤ 10000000000) :
    Calls Tryz.prog 86 #[.agg #[.int .i64 al, .int .i64 ah, .int .i64 an, .int .i64 af], .int .i64 dx] w fun e w' => e = .returned (.tuple #[.int .i64 (Cs.lo3 ⟨al, ah, an, af⟩ dx), .int .i64 (Cs.hi3 ⟨al, ah, an, af⟩ dx), .bool (decide (Cs.lo3 ⟨al, ah, an, af⟩ dx ≤ Cs.hi3 ⟨al, ah, an, af⟩ dx))]) ∧ Below w.heap.size w w' := by
  have hB0 := (Below.refl w.heap.size w).alloc (Nat.le_refl _) (.cells #[.int .i64 al, .int .i64 ah, .int .i64 an, .int .i64 af] 83)
  have HP0 := Lib.hid (show IntP w (w.alloc (.cells #[.int .i64 al, .int .i64 ah, .int .i64 an, .int .i64 af] 83)) #[.int .i64 al, .int .i64 ah, .int .i64 an, .int .i64 af] from ⟨hB0, Bk.new w _ _, hs.step hB0⟩)
  obtain ⟨rt, hrt⟩ : ∃ q, Cs.root r = q := ⟨_, rfl⟩
  have hro := fun w => root_any r (by omega) (by omega) w
  rw [hrt] at hro
  have HRO := Lib.hid hro
  obtain ⟨q0, q1⟩ := Cs.root_le (n := r) (by omega)
  rw [hrt] at q0 q1
  have hh1 : Cs.hi1 ⟨al, ah, an, af⟩ dx = min rt 100000 := by rw [Cs.hi1, hr, hrt]
  have hh2 : Cs.hi2 ⟨al, ah, an, af⟩ dx = if 0 < al then min (min rt 100000) (Cs.flo (dx * Cs.cos al) (Cs.sin al)) else min rt 100000 := by rw [Cs.hi2, hh1]
  have hl2 : Cs.lo2 ⟨al, ah, an, af⟩ dx = if ah < 180 then max (-(min rt 100000)) (Cs.cei (dx * Cs.cos ah) (Cs.sin ah)) else -(min rt 100000) := by rw [Cs.lo2, hh1]
  have hh3 : Cs.hi3 ⟨al, ah, an, af⟩ dx = if 90 ≤ al then min (Cs.hi2 ⟨al, ah, an, af⟩ dx) (-(Cs.least ⟨al, ah, an, af⟩ dx)) else Cs.hi2 ⟨al, ah, an, af⟩ dx := rfl
  have hl3 : Cs.lo3 ⟨al, ah, an, af⟩ dx = if ah ≤ 90 then max (Cs.lo2 ⟨al, ah, an, af⟩ dx) (Cs.least ⟨al, ah, an, af⟩ dx) else Cs.lo2 ⟨al, ah, an, af⟩ dx := rfl
  have hle : Cs.least ⟨al, ah, an, af⟩ dx = Cs.rootUp (Cs.cei (an * an) 100000000 - dx * dx) := rfl
  have hce : 0 ≤ Cs.cei (an * an) 100000000 ∧ Cs.cei (an * an) 100000000 ≤ 11449000000 := by unfold Cs.cei; omega
  obtain ⟨ce, hcc⟩ : ∃ q, Cs.cei (an * an) 100000000 = q := ⟨_, rfl⟩
  have hci := fun w => ceil_any (an * an) 100000000 (by omega) (by omega) (by omega) w
  rw [hcc] at hci hce hle
  obtain ⟨le, hll⟩ : ∃ q, Cs.rootUp (ce - dx * dx) = q := ⟨_, rfl⟩
  have hru := fun w => rootUp_any (ce - dx * dx) (by omega) (by omega) w
  have hlr : -1 ≤ le ∧ le ≤ 3037000500 := by
    have := Cs.root_le (n := ce - dx * dx) (by omega)
    rw [← hll, Cs.rootUp]
    split <;> omega
  rw [hll] at hru hle
  have HCI := Lib.hid hci
  have HRU := Lib.hid hru
  have HNO := Lib.hid fun w => northerly_any ⟨al, ah, an, af⟩ w
  have HSO := Lib.hid fun w => southerly_any ⟨al, ah, an, af⟩ w
  rw [show aval ⟨al, ah, an, af⟩ = .agg #[.int .i64 al, .int .i64 ah, .int .i64 an, .int .i64 af] from rfl] at HNO HSO
  dsimp only at HNO HSO
  rw [hle] at hh3 hl3
  obtain ⟨h2, hv2⟩ : ∃ q, Cs.hi2 ⟨al, ah, an, af⟩ dx = q := ⟨_, rfl⟩
  obtain ⟨l2, hw2⟩ : ∃ q, Cs.lo2 ⟨al, ah, an, af⟩ dx = q := ⟨_, rfl⟩
  rw [hv2] at hh2 hh3
  rw [hw2] at hl2 hl3
  rw [hh3, hl3]
  obtain ⟨l3, hx3⟩ : ∃ q, (if ah ≤ 90 then max l2 le else l2) = q := ⟨_, rfl⟩
  obtain ⟨h3, hy3⟩ : ∃ q, (if 90 ≤ al then min h2 (-le) else h2) = q := ⟨_, rfl⟩
  rw [hx3, hy3]
  have HL3 := Lib.hid hx3
  have HH3 := Lib.hid hy3
  clear hx3 hy3
  have HH2 := Lib.hid hh2
  have HL2 := Lib.hid hl2
  have HHX := Lib.hid hx
  obtain ⟨c0, c1⟩ := hce
  obtain ⟨e0, e1⟩ := hlr
  have hcd : IntKind.i64.wrap (ce - dx * dx) = ce - dx * dx := IntWalk.i64_in _ (by omega)
  have hnl : IntKind.i64.wrap (-le) = -le := IntWalk.i64_in _ (by omega)
  clear hB0 hs hr hro hrt hh1 hh2 hl2 hh3 hl3 hle hcc hci hll hru hv2 hw2 hx ok
  go_enter Tryz.func86, Tryz.ntmps86
  go_upto_if 38 with (go_at_call 22; refine (HRO.out _).mono ?_; rintro e w' ⟨rfl, rfl⟩)
  go_cut [4, 5] (fun s4 s5 wx => s4 = .int .i64 (-(min rt 100000)) ∧ s5 = .int .i64 h2 ∧ IntP w wx #[.int .i64 al, .int .i64 ah, .int .i64 an, .int .i64 af])
  case first =>
    have hp0 := HP0.out
    have hx := HHX.out
    by_cases g : 0 < al
    · have h2 := HH2.out
      rw [if_pos g] at h2
      have hsp := Cs.sin_pos g n2
      obtain ⟨p0, p1⟩ := mul_in hx (Cs.cos_range al)
      have HSI := Lib.hid fun w (h : Sn w) => (sin_any al w h).mono fun _ _ ⟨h1, h2⟩ => And.intro h1 h2.symm
      have HCO := Lib.hid fun w (h : Sn w) => (cos_any al w h).mono fun _ _ ⟨h1, h2⟩ => And.intro h1 h2.symm
      have hfl := fun w => (floor_any (dx * Cs.cos al) (Cs.sin al) (by omega) (by omega) hsp w).mono fun _ _ ⟨h1, h2⟩ => And.intro h1 h2.symm
      obtain ⟨si, hsi⟩ : ∃ q, Cs.sin al = q := ⟨_, rfl⟩
      obtain ⟨co, hco⟩ : ∃ q, Cs.cos al = q := ⟨_, rfl⟩
      simp only [hsi, hco] at *
      obtain ⟨fl, hff⟩ : ∃ q, Cs.flo (dx * co) si = q := ⟨_, rfl⟩
      simp only [hff] at h2 hfl
      have w2 : IntKind.i64.wrap (dx * co) = dx * co := IntWalk.i64_in _ (by omega)
      have HFL := Lib.hid hfl
      have H2 := Lib.hid h2
      have HS := Lib.hid hp0.sn
      have HP := Lib.hid hp0
      clear hfl h2 hp0 hsi hco hff hx
      go_wp2
      all_goals go_quiet ((first
        | (go_at_call 17; exact Calls.quiet_of_same (HSI.out _ (by first | exact HS.out | exact HS.out.drew | exact HS.out.drewN _)))
        | (go_at_call 19; exact Calls.quiet_of_same (HCO.out _ (by first | exact HS.out | exact HS.out.drew | exact HS.out.drewN _)))
        | (go_at_call 97; exact Calls.quiet_of_same (HFL.out _))))
      all_goals go_wp2
      all_goals
        go_meet
        have hh := H2.out
        have hp := HP.out
        clear hq
        first
          | exact ⟨vint (by omega), vint (by omega), hp.drewN _⟩
          | exact ⟨vint (by omega), vint (by omega), hp⟩
    · have h2 := HH2.out
      rw [if_neg g] at h2
      have HP := Lib.hid hp0
      have H2 := Lib.hid h2
      clear hp0 hx h2
      go_wp2_with fail
      all_goals
        go_meet
        have hh := H2.out
        have hp := HP.out
        clear hq
        exact ⟨vint (by omega), vint (by omega), hp⟩
  case rest =>
    obtain ⟨rfl, rfl, hP⟩ := hcut
    clear HH2 HRO HP0 q0 q1
    obtain ⟨W1, hW1⟩ : ∃ W, W = wc := ⟨_, rfl⟩
    subst hW1
    have a0 := (hP.bk.cell 0).trans rfl
    have a1 := (hP.bk.cell 1).trans rfl
    have a2 := (hP.bk.cell 2).trans rfl
    have a3 := (hP.bk.cell 3).trans rfl
    have lk := hP.bk.lt
    have HP1 := Lib.hid hP
    clear hP
    go_upto_if 52 with fail
    go_cut [4, 5] (fun s4 s5 wx => s4 = .int .i64 l2 ∧ s5 = .int .i64 h2 ∧ IntP w wx #[.int .i64 al, .int .i64 ah, .int .i64 an, .int .i64 af])
    case first =>
      have hp0 := HP1.out
      have hx := HHX.out
      by_cases g : ah < 180
      · have h2 := HL2.out
        rw [if_pos g] at h2
        have hsp := Cs.sin_pos n1 g
        obtain ⟨p0, p1⟩ := mul_in hx (Cs.cos_range ah)
        have HSI := Lib.hid fun w (h : Sn w) => (sin_any ah w h).mono fun _ _ ⟨h1, h2⟩ => And.intro h1 h2.symm
        have HCO := Lib.hid fun w (h : Sn w) => (cos_any ah w h).mono fun _ _ ⟨h1, h2⟩ => And.intro h1 h2.symm
        have hfl := fun w => (ceil_any (dx * Cs.cos ah) (Cs.sin ah) (by omega) (by omega) hsp w).mono fun _ _ ⟨h1, h2⟩ => And.intro h1 h2.symm
        obtain ⟨si, hsi⟩ : ∃ q, Cs.sin ah = q := ⟨_, rfl⟩
        obtain ⟨co, hco⟩ : ∃ q, Cs.cos ah = q := ⟨_, rfl⟩
        simp only [hsi, hco] at *
        obtain ⟨fl, hff⟩ : ∃ q, Cs.cei (dx * co) si = q := ⟨_, rfl⟩
        simp only [hff] at h2 hfl
        obtain ⟨mn, hmn⟩ : ∃ q, -(min rt 100000) = q := ⟨_, rfl⟩
        have w2 : IntKind.i64.wrap (dx * co) = dx * co := IntWalk.i64_in _ (by omega)
        have HFL := Lib.hid hfl
        have H2 := Lib.hid h2
        have HS := Lib.hid hp0.sn
        have HP := Lib.hid hp0
        clear hfl h2 hp0 hsi hco hff hx
        go_wp2
        all_goals go_quiet ((first
          | (go_at_call 17; exact Calls.quiet_of_same (HSI.out _ (by first | exact HS.out | exact HS.out.drew | exact HS.out.drewN _)))
          | (go_at_call 19; exact Calls.quiet_of_same (HCO.out _ (by first | exact HS.out | exact HS.out.drew | exact HS.out.drewN _)))
          | (go_at_call 98; exact Calls.quiet_of_same (HFL.out _))))
        all_goals go_wp2
        all_goals
          go_meet
          have hh := H2.out
          have hp := HP.out
          clear hq
          first
            | exact ⟨vint (by omega), vint (by omega), hp.drewN _⟩
            | exact ⟨vint (by omega), vint (by omega), hp⟩
      · have h2 := HL2.out
        rw [if_neg g] at h2
        have HP := Lib.hid hp0
        have H2 := Lib.hid h2
        clear hp0 hx h2
        go_wp2_with fail
        all_goals
          go_meet
          have hh := H2.out
          have hp := HP.out
          clear hq
          exact ⟨vint (by omega), vint (by omega), hp⟩
    case rest =>
      obtain ⟨rfl, rfl, hP⟩ := hcut
      clear HL2 HP1 a0 a1 a2 a3 lk HHX
      obtain ⟨W2, hW2⟩ : ∃ W, W = wc := ⟨_, rfl⟩
      subst hW2
      have a0 := (hP.bk.cell 0).trans rfl
      have a1 := (hP.bk.cell 1).trans rfl
      have a2 := (hP.bk.cell 2).trans rfl
      have a3 := (hP.bk.cell 3).trans rfl
      have lk := hP.bk.lt
      have HP2 := Lib.hid hP
      clear hP
      go_upto_if 76 with (first
        | (go_at_call 98; refine (HCI.out _).mono ?_; rintro e w' ⟨rfl, rfl⟩)
        | (go_at_call 23; refine (HRU.out _).mono ?_; rintro e w' ⟨rfl, rfl⟩)
        | (go_at_call 99; refine (HNO.out _).mono ?_; rintro e w3 ⟨rfl, hb3⟩))
      have HP3 := Lib.hid (HP2.out.step hb3)
      clear hb3 a0 a1 a2 a3 lk
      go_cut [4] (fun s4 wx => s4 = .int .i64 l3 ∧ IntP w wx #[.int .i64 al, .int .i64 ah, .int .i64 an, .int .i64 af])
      case first =>
        by_cases g : ah ≤ 90
        all_goals
          have hh := HL3.out
          (first | rw [if_pos g] at hh | rw [if_neg g] at hh)
          have HX := Lib.hid hh
          clear hh
          go_wp2_with fail
        all_goals
          go_meet
          have hh := HX.out
          have hp := HP3.out
          clear hq
          exact ⟨vint (by omega), hp⟩
      case rest =>
        obtain ⟨rfl, hP⟩ := hcut
        clear HL3 HP3 HP2
        obtain ⟨W4, hW4⟩ : ∃ W, W = wc := ⟨_, rfl⟩
        subst hW4
        have a0 := (hP.bk.cell 0).trans rfl
        have a1 := (hP.bk.cell 1).trans rfl
        have a2 := (hP.bk.cell 2).trans rfl
        have a3 := (hP.bk.cell 3).trans rfl
        have lk := hP.bk.lt
        have HP4 := Lib.hid hP
        clear hP
        go_upto_if 81 with (go_at_call 100; refine (HSO.out _).mono ?_; rintro e w5 ⟨rfl, hb5⟩)
        have HP5 := Lib.hid (HP4.out.step hb5)
        clear hb5 a0 a1 a2 a3 lk
        go_cut [5] (fun s5 wx => s5 = .int .i64 h3 ∧ IntP w wx #[.int .i64 al, .int .i64 ah, .int .i64 an, .int .i64 af])
        case first =>
          by_cases g : 90 ≤ al
          all_goals
            have hh := HH3.out
            (first | rw [if_pos g] at hh | rw [if_neg g] at hh)
            have HX := Lib.hid hh
            clear hh
            go_wp2_with fail
          all_goals
            go_meet
            have hh := HX.out
            have hp := HP5.out
            clear hq
            exact ⟨vint (by omega), hp⟩
        case rest =>
          obtain ⟨rfl, hP⟩ := hcut
          clear HH3 HP4 HP5
          obtain ⟨W6, hW6⟩ : ∃ W, W = wc := ⟨_, rfl⟩
          subst hW6
          go_wp2_with fail
          all_goals
            go_ret3
            exact ⟨ret3 rfl rfl (by first | rfl | simp [*]), hP.below⟩

set_option maxHeartbeats 4000000 in
theorem interval_any (a : Cs.Aim) (dx : Int) (w : World) (hs : Sn w) (ok : Cs.AimOk a) (hx : -100000 ≤ dx ∧ dx ≤ 100000) :
    Calls Tryz.prog 86 #[aval a, .int .i64 dx] w fun e w' => e = .returned (.tuple #[.int .i64 (Cs.intA a dx).1, .int .i64 (Cs.intA a dx).2.1, .bool (Cs.intA a dx).2.2]) ∧ Below w.heap.size w w' := by
  have o1 := ok.near0
  have o2 := ok.nf
  have o3 := ok.far1
  obtain ⟨s0, s1⟩ := Cs.sq_range (x := a.far) (m := 1070000000) (by omega) (by omega)
  obtain ⟨t0, t1⟩ := Cs.sq_range (x := a.near) (m := 1070000000) (by omega) (by omega)
  obtain ⟨x0, x1⟩ := Cs.sq_range (x := dx) (m := 100000) hx.1 hx.2
  have hrm : Cs.room a dx = a.far * a.far / 100000000 - dx * dx := rfl
  have hr0 : -10000000000 ≤ Cs.room a dx ∧ Cs.room a dx ≤ 11449000000 := by rw [hrm]; omega
  have htd : (a.far * a.far).tdiv 100000000 = a.far * a.far / 100000000 := Int.tdiv_eq_ediv_of_nonneg s0
  obtain ⟨r, hr⟩ : ∃ r, Cs.room a dx = r := ⟨_, rfl⟩
  have hq : (a.far * a.far).tdiv 100000000 = r + dx * dx := by rw [htd]; omega
  rw [hr] at hr0
  obtain ⟨r0, r1⟩ := hr0
  obtain ⟨al, ah, an, af⟩ := a
  have hav : aval ⟨al, ah, an, af⟩ = .agg #[.int .i64 al, .int .i64 ah, .int .i64 an, .int .i64 af] := rfl
  rw [hav]
  by_cases hno : ah ≤ 0 ∨ 180 ≤ al ∨ Cs.room ⟨al, ah, an, af⟩ dx < 0
  · rw [Cs.intA_no hno]
    have hB0 := (Below.refl w.heap.size w).alloc (Nat.le_refl _) (.cells #[.int .i64 al, .int .i64 ah, .int .i64 an, .int .i64 af] 83)
    have HB0 := Lib.hid hB0
    rw [hr] at hno
    have hcase : ah ≤ 0 ∨ (0 < ah ∧ 180 ≤ al) ∨ (0 < ah ∧ al < 180 ∧ r < 0) := by omega
    clear hno hrm htd ok hs hr hav hB0
    dsimp only at *
    rcases hcase with g1 | ⟨g1, g2⟩ | ⟨g1, g2, g3⟩
    all_goals
      go_enter Tryz.func86, Tryz.ntmps86
      go_wp2_with fail
      go_ret3
      exact ⟨rfl, HB0.out⟩
  · rw [Cs.intA_yes hno]
    rw [hr] at hno
    exact interval_yes al ah an af dx w hs ok hx r hr (by omega) (by omega) (by omega) r1 hq s0 s1 t0 t1 x0 x1

end Go.Proofs.YtncdeogpmodoaaaGreatDoor
