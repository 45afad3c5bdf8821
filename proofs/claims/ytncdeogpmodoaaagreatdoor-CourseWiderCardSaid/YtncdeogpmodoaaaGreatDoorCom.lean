/-
  interval, Common, Interval of course.
-/
import Derived.Test.YtncdeogpmodoaaaGreatDoorInt
set_option linter.unusedVariables false
set_option linter.unusedSimpArgs false
namespace Go.Proofs.YtncdeogpmodoaaaGreatDoor
open Go.RowKit
set_option maxRecDepth 100000

namespace Cs
theorem hi1_range {a : Aim} {dx : Int} (h : room a dx ≤ 9223372036854775807) : 0 ≤ hi1 a dx ∧ hi1 a dx ≤ 100000 := by
  have := root_le h
  unfold hi1
  omega
/-- Wide enough for a change of sign. -/
theorem intA_wide {a : Aim} {dx : Int} (ok : AimOk a) (hx : -100000 ≤ dx ∧ dx ≤ 100000) : (-9223372036854775807 ≤ (intA a dx).1 ∧ (intA a dx).1 ≤ 9223372036854775807) ∧ (-9223372036854775807 ≤ (intA a dx).2.1 ∧ (intA a dx).2.1 ≤ 9223372036854775807) := by
  by_cases hno : a.high ≤ 0 ∨ 180 ≤ a.low ∨ room a dx < 0
  · rw [intA_no hno]
    dsimp only
    omega
  · rw [intA_yes hno]
    dsimp only
    have o1 := ok.near0
    have o2 := ok.nf
    have o3 := ok.far1
    obtain ⟨s0, s1⟩ := Cs.sq_range (x := a.far) (m := 1070000000) (by omega) (by omega)
    obtain ⟨t0, t1⟩ := Cs.sq_range (x := a.near) (m := 1070000000) (by omega) (by omega)
    obtain ⟨x0, x1⟩ := Cs.sq_range (x := dx) (m := 100000) hx.1 hx.2
    have hr : room a dx ≤ 9223372036854775807 := by unfold room; omega
    have h1 := hi1_range hr
    have hl : 0 ≤ least a dx ∧ least a dx ≤ 3037000500 := by
      have hc : cei (a.near * a.near) 100000000 - dx * dx ≤ 9223372036854775807 := by unfold cei; omega
      have := root_le hc
      have h0 := rootUp_nonneg hc
      unfold least
      refine ⟨h0, ?_⟩
      unfold rootUp
      split <;> omega
    have h2 : -9223372036854775807 ≤ hi2 a dx ∧ hi2 a dx ≤ 100000 := by
      unfold hi2
      split
      · rename_i g
        obtain ⟨p0, p1⟩ := mul_in hx (cos_range a.low)
        have := flo_range (dx * cos a.low) (sin a.low) (by omega) (by omega) (sin_pos g (by omega))
        omega
      · omega
    have l2 : -100000 ≤ lo2 a dx ∧ lo2 a dx ≤ 9223372036854775807 := by
      unfold lo2
      split
      · rename_i g
        obtain ⟨p0, p1⟩ := mul_in hx (cos_range a.high)
        have := flo_range (-(dx * cos a.high)) (sin a.high) (by omega) (by omega) (sin_pos (by omega) g)
        unfold flo at this
        unfold cei
        omega
      · omega
    constructor
    · unfold lo3
      split <;> omega
    · unfold hi3
      split <;> omega
end Cs

set_option maxHeartbeats 2000000 in
theorem courseInt_any (A : Option Addr) (c : Nat) (vs : List (Int × Int)) (co : Cs.Co) (dx : Int) (w : World) (hs : Sn w) (hR : Rd w w.heap.size 2 A vs.length (vcells vs)) (hl : vs.length ≤ 1000000) (hco : Cs.courseOk co = true)
    (hx : -100000 ≤ dx ∧ dx ≤ 100000) :
    Calls Tryz.prog 74 #[.slice A vs.length c, cval co, .int .i64 dx] w fun e w' => e = .returned (.tuple #[.int .i64 (Cs.intF vs co dx).1, .int .i64 (Cs.intF vs co dx).2.1, .bool (Cs.intF vs co dx).2.2]) ∧ Below w.heap.size w w' := by
  have hae := fun w h => aimEast_any A c vs co dx w h hl hco
  rw [cval_def] at hae ⊢
  have ok := Cs.aimEast_ok vs hco dx
  have hB0 := (Below.refl w.heap.size w).alloc (Nat.le_refl _) (.cells #[.int .i64 co.b, .int .i64 co.n, .int .i64 co.l, .int .i64 co.y, .int .i64 co.w, .int .i64 co.s] 29)
  have HRD := Lib.hid ((hR.below hB0 (Nat.le_refl _)).more hB0.size)
  have HB0 := Lib.hid hB0
  have HS := Lib.hid hs
  clear hB0 hs hR
  by_cases hd : 0 < dx
  · have hr : Cs.intF vs co dx = Cs.intA (Cs.aimEast vs co dx) dx := by rw [Cs.intF, if_pos hd]
    rw [hr]
    have hia := fun w h => interval_any (Cs.aimEast vs co dx) dx w h ok hx
    obtain ⟨⟨il, ih, io⟩, hi⟩ : ∃ q, Cs.intA (Cs.aimEast vs co dx) dx = q := ⟨_, rfl⟩
    rw [hi] at hia ⊢
    obtain ⟨am, ham⟩ : ∃ q, Cs.aimEast vs co dx = q := ⟨_, rfl⟩
    simp only [ham] at hae hia
    obtain ⟨al, ah, an, af⟩ := am
    have hav : aval ⟨al, ah, an, af⟩ = .agg #[.int .i64 al, .int .i64 ah, .int .i64 an, .int .i64 af] := rfl
    rw [hav] at hae hia
    dsimp only at hia ⊢
    have HAE := Lib.hid hae
    have HIA := Lib.hid hia
    clear hae hia hr hi ham hav ok hx
    go_enter Tryz.func74, Tryz.ntmps74
    go_wp2_with fail
    refine (HAE.out _ HRD.out).mono ?_
    rintro e w1 ⟨rfl, hb1⟩
    have hB1 := HB0.out.trans (hb1.mono HB0.out.size)
    have hB2 := hB1.alloc hB1.size (.cells #[.int .i64 al, .int .i64 ah, .int .i64 an, .int .i64 af] 83)
    have HS2 := Lib.hid (HS.out.step hB2)
    have HB2 := Lib.hid hB2
    clear hb1 hB1 hB2
    go_wp2_with fail
    refine (HIA.out _ HS2.out).mono ?_
    rintro e w2 ⟨rfl, hb2⟩
    have HB3 := Lib.hid (HB2.out.trans (hb2.mono HB2.out.size))
    clear hb2
    go_wp2_with fail
    go_ret3
    exact ⟨rfl, HB3.out⟩
  · have hr : Cs.intF vs co dx = (-(Cs.intA (Cs.aimEast vs co dx) (-dx)).2.1, -(Cs.intA (Cs.aimEast vs co dx) (-dx)).1, (Cs.intA (Cs.aimEast vs co dx) (-dx)).2.2) := by rw [Cs.intF, if_neg hd]
    rw [hr]
    have hia := fun w h => interval_any (Cs.aimEast vs co dx) (-dx) w h ok (by omega)
    obtain ⟨⟨i0, i1⟩, ⟨i2, i3⟩⟩ := Cs.intA_wide (dx := -dx) ok (by omega)
    obtain ⟨⟨il, ih, io⟩, hi⟩ : ∃ q, Cs.intA (Cs.aimEast vs co dx) (-dx) = q := ⟨_, rfl⟩
    rw [hi] at hia i0 i1 i2 i3 ⊢
    obtain ⟨am, ham⟩ : ∃ q, Cs.aimEast vs co dx = q := ⟨_, rfl⟩
    simp only [ham] at hae hia
    obtain ⟨al, ah, an, af⟩ := am
    have hav : aval ⟨al, ah, an, af⟩ = .agg #[.int .i64 al, .int .i64 ah, .int .i64 an, .int .i64 af] := rfl
    rw [hav] at hae hia
    dsimp only at hia i0 i1 i2 i3 ⊢
    have HAE := Lib.hid hae
    have HIA := Lib.hid hia
    clear hae hia hr hi ham hav ok
    go_enter Tryz.func74, Tryz.ntmps74
    go_wp2_with fail
    refine (HAE.out _ HRD.out).mono ?_
    rintro e w1 ⟨rfl, hb1⟩
    have hB1 := HB0.out.trans (hb1.mono HB0.out.size)
    have hB2 := hB1.alloc hB1.size (.cells #[.int .i64 al, .int .i64 ah, .int .i64 an, .int .i64 af] 83)
    have HS2 := Lib.hid (HS.out.step hB2)
    have HB2 := Lib.hid hB2
    clear hb1 hB1 hB2
    go_wp2_with fail
    refine (HIA.out _ HS2.out).mono ?_
    rintro e w2 ⟨rfl, hb2⟩
    have HB3 := Lib.hid (HB2.out.trans (hb2.mono HB2.out.size))
    clear hb2
    go_wp2_with fail
    go_ret3
    exact ⟨rfl, HB3.out⟩

theorem results_tmp4 {fn : Func} {t u v x : Tmp} (h : fn.results = #[.tmp t, .tmp u, .tmp v, .tmp x]) (tmps : Array Value) (P : Program) (w : World) :
    (results fn tmps).run P w = .ok (.tuple #[tmps.getD t undef, tmps.getD u undef, tmps.getD v undef, tmps.getD x undef]) w := by
  simp [results, h]

namespace Cs
theorem checkE_all {vs : List (Int × Int)} {cs : List Co} (h : checkE vs cs = 0) : ∀ j (hj : j < cs.length), courseOk cs[j] = true := fun j hj => by
  rcases hc : courseOk cs[j] with _ | _
  · by_cases hv : varsE vs = 0
    · rw [checkE_course hv hj hc] at h
      cases h
    · rw [checkE_vars hv] at h
      exact absurd h hv
  · rfl
theorem comG_step (vs : List (Int × Int)) (cs : List Co) (dx lo hi : Int) {k : Nat} (hk : k < cs.length) {f t : Int} {ok : Bool} (hi' : intF vs cs[k] dx = (f, t, ok)) :
    comG vs dx (lo, hi) (cs.drop k) = if ok && decide (max lo f ≤ min hi t) then comG vs dx (max lo f, min hi t) (cs.drop (k + 1)) else (0, 0, false) := by
  rw [List.drop_eq_getElem_cons hk, comG, hi']
end Cs

set_option maxHeartbeats 4000000 in
theorem Common_any (A A2 : Option Addr) (c c2 : Nat) (vs : List (Int × Int)) (cs : List Cs.Co) (dx : Int) (w : World) (hs : Sn w) (hR : Rd w w.heap.size 2 A vs.length (vcells vs)) (hl : vs.length ≤ 1000000)
    (hC : Rd w w.heap.size 6 A2 cs.length (ccells cs)) (hlc : cs.length ≤ 1000000) :
    Calls Tryz.prog 50 #[.slice A vs.length c, .slice A2 cs.length c2, .int .i64 dx] w fun e w' => e = .returned (.tuple #[.int .i64 (Cs.comF vs cs dx).1.1, .int .i64 (Cs.comF vs cs dx).1.2.1, .bool (Cs.comF vs cs dx).1.2.2, .int .i64 (Cs.comF vs cs dx).2]) ∧ Below w.heap.size w w' := by
  have hea := checkEast_any A A2 c c2 vs cs dx w hR hl hC hlc
  by_cases h40 : 40 < cs.length
  · have hr : Cs.comF vs cs dx = ((0, 0, false), 2) := by rw [Cs.comF, if_pos h40]
    rw [hr]
    clear hr hea hR hC
    go_enter Tryz.func50, Tryz.ntmps50
    go_wp2_with fail
    refine bodyPost_ret (results_tmp4 rfl _ _ _) rfl ?_
    exact ⟨rfl, Below.refl _ _⟩
  · by_cases h0 : cs.length = 0
    · have hr : Cs.comF vs cs dx = ((0, 0, false), 5) := by rw [Cs.comF, if_neg h40, if_pos h0]
      rw [hr]
      clear hr hea hR hC
      have hn0 : ((cs.length : Int) == 0) = true := by simp [h0]
      go_enter Tryz.func50, Tryz.ntmps50
      go_wp2_with fail
      refine bodyPost_ret (results_tmp4 rfl _ _ _) rfl ?_
      exact ⟨rfl, Below.refl _ _⟩
    · have hn0 : ((cs.length : Int) == 0) = false := beq_eq_false_iff_ne.2 (by omega)
      by_cases he : Cs.eastE vs cs dx = 0
      · have hr : Cs.comF vs cs dx = (Cs.comG vs dx (-100000, 100000) cs, 0) := by rw [Cs.comF, if_neg h40, if_neg h0, if_neg (by rw [he]; simp)]
        rw [hr]
        dsimp only
        rw [he] at hea
        obtain ⟨g1, g2, g3, g4⟩ := Cs.eastE_zero he
        have hall := Cs.checkE_all g1
        obtain ⟨r, hrr⟩ : ∃ r, Cs.comG vs dx (-100000, 100000) cs = r := ⟨_, rfl⟩
        rw [hrr]
        have HR0 := Lib.hid (show Cs.comG vs dx (-100000, 100000) (cs.drop 0) = r by simpa using hrr)
        have HEA := Lib.hid hea
        have HRR := Lib.hid hR
        have HCC := Lib.hid hC
        have HS := Lib.hid hs
        have HIN := Lib.hid fun (k : Nat) (hk : k < cs.length) w h1 h2 => courseInt_any A c vs cs[k] dx w h1 h2 hl (hall k hk) ⟨g3, g4⟩
        clear hea hr hrr he g1 hall hR hC hs
        go_enter Tryz.func50, Tryz.ntmps50
        go_wp2_with fail
        refine HEA.out.mono ?_
        rintro e w1 ⟨rfl, hb1⟩
        go_wp2_with fail
        go_loopw [6, 7, 31] (fun L H I wr => ∃ (k : Nat) (lo hi : Int), k ≤ cs.length ∧ I = .int .i64 k ∧ L = .int .i64 lo ∧ H = .int .i64 hi ∧ Cs.comG vs dx (lo, hi) (cs.drop k) = r ∧ Below w.heap.size w wr) (fun _ _ I _ => cs.length - (intOf I).toNat)
        case atStart => exact ⟨0, -100000, 100000, Nat.zero_le _, rfl, rfl, rfl, HR0.out, hb1⟩
        case round =>
          clear hb1 HEA HR0
          obtain ⟨k, lo, hi, hk, rfl, rfl, rfl, hF, hB⟩ := hrel
          by_cases hlt : k < cs.length
          · obtain ⟨bv, ov, rfl, hbv, e0, e1, e2, e3, e4, e5⟩ := (HCC.out.below hB (Nat.le_refl _)).course hlt
            obtain ⟨⟨f, t, ok⟩, hin⟩ : ∃ q, Cs.intF vs cs[k] dx = q := ⟨_, rfl⟩
            have hcc := HIN.out k hlt
            rw [hin, cval_def] at hcc
            rw [Cs.comG_step vs cs dx lo hi hlt hin] at hF
            dsimp only at hcc
            obtain ⟨co, hv⟩ : ∃ v, cs[k] = v := ⟨_, rfl⟩
            rw [hv] at e0 e1 e2 e3 e4 e5 hcc
            have hB2 := hB.alloc hB.size (.cells #[.int .i64 co.b, .int .i64 co.n, .int .i64 co.l, .int .i64 co.y, .int .i64 co.w, .int .i64 co.s] 29)
            have HR2 := Lib.hid ((HRR.out.below hB2 (Nat.le_refl _)).more hB2.size)
            have HS2 := Lib.hid (HS.out.step hB2)
            have HB2 := Lib.hid hB2
            have HCK := Lib.hid hcc
            clear hv hin hcc hB hB2
            by_cases hok : (ok && decide (max lo f ≤ min hi t)) = true
            · rw [if_pos hok] at hF
              simp only [Bool.and_eq_true, decide_eq_true_eq] at hok
              obtain ⟨rfl, hle⟩ := hok
              have HF := Lib.hid hF
              clear hF
              go_wp2_with fail
              refine (HCK.out _ HS2.out HR2.out).mono ?_
              rintro e w2 ⟨rfl, hb2⟩
              have HB3 := Lib.hid (HB2.out.trans (hb2.mono HB2.out.size))
              clear hb2
              go_wp2_with fail
              all_goals
                go_roundw
                case rel => exact ⟨k + 1, max lo f, min hi t, by omega, by go_num, vint (by omega), vint (by omega), HF.out, HB3.out⟩
                case measure => simp [intOf]; omega
            · rw [if_neg hok] at hF
              have hno : ok = false ∨ (ok = true ∧ min hi t < max lo f) := by
                rcases ok with _ | _
                · exact Or.inl rfl
                · simp at hok
                  exact Or.inr ⟨rfl, by omega⟩
              have HF := Lib.hid hF
              clear hF hok
              rcases hno with rfl | ⟨rfl, hlt2⟩
              all_goals
                go_wp2_with fail
                refine (HCK.out _ HS2.out HR2.out).mono ?_
                rintro e w2 ⟨rfl, hb2⟩
                have HB3 := Lib.hid (HB2.out.trans (hb2.mono HB2.out.size))
                clear hb2
                go_wp2_with fail
                all_goals
                  refine bodyPost_ret (results_tmp4 rfl _ _ _) rfl ?_
                  have h := HF.out
                  subst h
                  exact ⟨rfl, HB3.out⟩
          · obtain rfl : k = cs.length := by omega
            rw [List.drop_length] at hF
            have HF := Lib.hid (show (lo, hi, true) = r from hF)
            have HB2 := Lib.hid hB
            clear hF hB
            go_wp2_with fail
            refine bodyPost_ret (results_tmp4 rfl _ _ _) rfl ?_
            have h := HF.out
            subst h
            exact ⟨rfl, HB2.out⟩
      · have hr : Cs.comF vs cs dx = ((0, 0, false), Cs.eastE vs cs dx) := by rw [Cs.comF, if_neg h40, if_neg h0, if_pos he]
        rw [hr]
        dsimp only
        have hne : (Cs.eastE vs cs dx != 0) = true := by simp [he]
        obtain ⟨s, hss⟩ : ∃ s, Cs.eastE vs cs dx = s := ⟨_, rfl⟩
        rw [hss] at hea hne ⊢
        have HEA := Lib.hid hea
        clear hea he hss hr hR hC
        go_enter Tryz.func50, Tryz.ntmps50
        go_wp2_with fail
        refine HEA.out.mono ?_
        rintro e w1 ⟨rfl, hb1⟩
        go_wp2_with fail
        refine bodyPost_ret (results_tmp4 rfl _ _ _) rfl ?_
        exact ⟨rfl, hb1⟩

set_option maxHeartbeats 2000000 in
theorem Interval_any (A : Option Addr) (c : Nat) (vs : List (Int × Int)) (co : Cs.Co) (dx : Int) (w : World) (hs : Sn w) (hR : Rd w w.heap.size 2 A vs.length (vcells vs)) (hl : vs.length ≤ 1000000) :
    Calls Tryz.prog 42 #[.slice A vs.length c, cval co, .int .i64 dx] w fun e w' => e = .returned (.tuple #[.int .i64 (Cs.comF vs [co] dx).1.1, .int .i64 (Cs.comF vs [co] dx).1.2.1, .bool (Cs.comF vs [co] dx).1.2.2, .int .i64 (Cs.comF vs [co] dx).2]) ∧ Below w.heap.size w w' := by
  have hcm := fun A2 w hs (h : Rd w w.heap.size 2 A vs.length (vcells vs)) hC => Common_any A A2 c 1 vs [co] dx w hs h hl hC (by simp)
  have hfr : ∀ t, Rd ((w.alloc (.cells #[.int .i64 co.b, .int .i64 co.n, .int .i64 co.l, .int .i64 co.y, .int .i64 co.w, .int .i64 co.s] 29)).alloc (.cells #[.int .i64 co.b, .int .i64 co.n, .int .i64 co.l, .int .i64 co.y, .int .i64 co.w, .int .i64 co.s] t))
      ((w.alloc (.cells #[.int .i64 co.b, .int .i64 co.n, .int .i64 co.l, .int .i64 co.y, .int .i64 co.w, .int .i64 co.s] 29)).alloc (.cells #[.int .i64 co.b, .int .i64 co.n, .int .i64 co.l, .int .i64 co.y, .int .i64 co.w, .int .i64 co.s] t)).heap.size 6 (some ⟨w.heap.size + 1, 0, none⟩) [co].length (ccells [co]) := fun t => by
    have := rd_one (w.alloc (.cells #[.int .i64 co.b, .int .i64 co.n, .int .i64 co.l, .int .i64 co.y, .int .i64 co.w, .int .i64 co.s] 29)) t co
    rw [World.size_alloc] at this
    rw [World.size_alloc, World.size_alloc]
    exact this
  have hbl : ∀ o o2, Below w.heap.size w ((w.alloc o).alloc o2) := fun o o2 => ((Below.refl _ _).alloc (Nat.le_refl _) _).alloc (by simp) _
  have hrd : ∀ o o2, Rd ((w.alloc o).alloc o2) ((w.alloc o).alloc o2).heap.size 2 A vs.length (vcells vs) := fun o o2 => (hR.below (hbl o o2) (Nat.le_refl _)).more (hbl o o2).size
  have HFR := Lib.hid hfr
  have HBL := Lib.hid hbl
  have HRD := Lib.hid hrd
  have HS := Lib.hid fun o o2 => hs.step (hbl o o2)
  obtain ⟨⟨⟨lo, hi, ok⟩, e⟩, hr⟩ : ∃ q, Cs.comF vs [co] dx = q := ⟨_, rfl⟩
  rw [hr] at hcm ⊢
  rw [cval_def]
  dsimp only at hcm ⊢
  have HCM := Lib.hid hcm
  clear hfr hbl hrd hR hs hr hcm
  go_enter Tryz.func42, Tryz.ntmps42
  go_wp2_with fail
  refine (HCM.out _ _ (HS.out _ _) (HRD.out _ _) (HFR.out _)).mono ?_
  rintro e w1 ⟨rfl, hb1⟩
  have HB1 := Lib.hid ((HBL.out _ _).trans (hb1.mono (HBL.out _ _).size))
  clear hb1
  go_wp2_with fail
  refine bodyPost_ret (results_tmp4 rfl _ _ _) rfl ?_
  exact ⟨rfl, HB1.out⟩

end Go.Proofs.YtncdeogpmodoaaaGreatDoor
