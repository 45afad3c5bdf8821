/-
  Needed, Reverse of course.
-/
import Derived.Test.YtncdeogpmodoaaaGreatDoorCom
set_option linter.unusedVariables false
set_option linter.unusedSimpArgs false
namespace Go.Proofs.YtncdeogpmodoaaaGreatDoor
open Go.RowKit
set_option maxRecDepth 100000

theorem below_cell {w wr : World} {C : Nat} (h : Below C w wr) {p : Addr} (hp : C ≤ p.block) (u : Value) : Below C w (wr.setCell p u) :=
  ⟨h.os, h.tape, h.output, by rw [size_setCell]; exact h.size, fun k hk => (Below.heap_setCell _ _ _ _ (by omega)).trans (h.block k hk)⟩

set_option maxHeartbeats 4000000 in
theorem Needed_any (A : Option Addr) (c : Nat) (vs : List (Int × Int)) (co : Cs.Co) (dx dy : Int) (w : World) (hs : Sn w) (hR : Rd w w.heap.size 2 A vs.length (vcells vs)) (hl : vs.length ≤ 1000000) :
    Calls Tryz.prog 44 #[.slice A vs.length c, cval co, .int .i64 dx, .int .i64 dy] w fun e w' => e = .returned (.tuple #[.int .i64 (Cs.needF vs co dx dy).1.1, .bool (Cs.needF vs co dx dy).1.2, .int .i64 (Cs.needF vs co dx dy).2]) ∧ Below w.heap.size w w' := by
  have hst := fun w h => checkStep_any A c vs co dx dy w h hl
  rw [cval_def] at hst ⊢
  have hB0 := (Below.refl w.heap.size w).alloc (Nat.le_refl _) (.cells #[.int .i64 co.b, .int .i64 co.n, .int .i64 co.l, .int .i64 co.y, .int .i64 co.w, .int .i64 co.s] 29)
  have HRD := Lib.hid ((hR.below hB0 (Nat.le_refl _)).more hB0.size)
  have HRR := Lib.hid hR
  have HS := Lib.hid hs
  have HB0 := Lib.hid hB0
  clear hB0 hs hR
  by_cases he : Cs.stepE vs co dx dy = 0
  · obtain ⟨g1, g2, g3, g4, g5, g6⟩ := Cs.stepE_zero he
    have hr : Cs.needF vs co dx dy = (Cs.needG vs co dx dy 31 0, 0) := by rw [Cs.needF, if_neg (by rw [he]; simp)]
    rw [hr]
    dsimp only
    obtain ⟨r, hrr⟩ : ∃ r, Cs.needG vs co dx dy 31 0 = r := ⟨_, rfl⟩
    rw [hrr]
    rw [he] at hst
    have HR0 := Lib.hid hrr
    have HST := Lib.hid hst
    have HMI := Lib.hid fun (k : Int) (h0 : 0 ≤ k) (h1 : k ≤ 30) w hs h => misfit_any A c vs { co with n := k } dx dy w hs h hl (Cs.needle_ok g1 h0 h1) ⟨g3, g4⟩ ⟨g5, g6⟩
    clear hst he hr hrr g1 g2 g3 g4 g5 g6
    go_enter Tryz.func44, Tryz.ntmps44
    go_wp2_with fail
    refine (HST.out _ HRD.out).mono ?_
    rintro e w1 ⟨rfl, hb1⟩
    have hB1 := HB0.out.trans (hb1.mono HB0.out.size)
    have hk := ((Bk.new w 29 #[.int .i64 co.b, .int .i64 co.n, .int .i64 co.l, .int .i64 co.y, .int .i64 co.w, .int .i64 co.s]).below hb1 (by simp))
    clear hb1 HST
    go_wp2_with fail
    go_loopw [20] (fun I wr => ∃ (k : Nat) (n : Int), k ≤ 31 ∧ I = .int .i64 k ∧ Cs.needG vs co dx dy (31 - k) k = r ∧ Below w.heap.size w wr ∧ Bk wr w.heap.size 29 #[.int .i64 co.b, .int .i64 n, .int .i64 co.l, .int .i64 co.y, .int .i64 co.w, .int .i64 co.s]) (fun I _ => 31 - (intOf I).toNat)
    case atStart => exact ⟨0, co.n, by omega, rfl, HR0.out, hB1, hk⟩
    case round =>
      clear hB1 hk HR0 HRD HB0
      obtain ⟨k, n, hk, rfl, hF, hB, hK⟩ := hrel
      by_cases hlt : k < 31
      · have hgs : Cs.needG vs co dx dy (31 - k) k = if Cs.misF vs { co with n := (k : Int) } dx dy = 0 then ((k : Int), true) else Cs.needG vs co dx dy (31 - (k + 1)) ((k + 1 : Nat) : Int) := by
          rw [show 31 - k = (31 - (k + 1)) + 1 by omega, Cs.needG, show ((k + 1 : Nat) : Int) = (k : Int) + 1 by omega]
        rw [hgs] at hF
        have hmi := HMI.out (k : Int) (by omega) (by omega)
        obtain ⟨q, hq⟩ : ∃ q, Cs.misF vs { co with n := (k : Int) } dx dy = q := ⟨_, rfl⟩
        rw [hq] at hmi hF
        rw [show cval { co with n := (k : Int) } = .agg #[.int .i64 co.b, .int .i64 (k : Int), .int .i64 co.l, .int .i64 co.y, .int .i64 co.w, .int .i64 co.s] from rfl] at hmi
        have e0 := (hK.cell 0).trans rfl
        have e1 := (hK.cell 1).trans rfl
        have e2 := (hK.cell 2).trans rfl
        have e3 := (hK.cell 3).trans rfl
        have e4 := (hK.cell 4).trans rfl
        have e5 := (hK.cell 5).trans rfl
        have f1 := hK.frozen 1
        have lk := hK.lt
        have hB2 := below_cell (p := ⟨w.heap.size, 1, none⟩) hB (Nat.le_refl _) (.int .i64 (k : Int))
        have hK2 : Bk (wr.setCell ⟨w.heap.size, 1, none⟩ (.int .i64 (k : Int))) w.heap.size 29 #[.int .i64 co.b, .int .i64 (k : Int), .int .i64 co.l, .int .i64 co.y, .int .i64 co.w, .int .i64 co.s] := hK.set 1 _
        have HM := Lib.hid (hmi _ (HS.out.step hB2) ((HRR.out.below hB2 (Nat.le_refl _)).more hB2.size))
        have HB2 := Lib.hid hB2
        have HK2 := Lib.hid hK2
        clear hmi hq hgs hB hK hB2 hK2
        by_cases h0 : q = 0
        · rw [if_pos h0] at hF
          have HF := Lib.hid hF
          subst h0
          clear hF
          go_wp2_with fail
          refine HM.out.mono ?_
          rintro e w2 ⟨rfl, hb2⟩
          have hk3 := (HK2.out.below hb2 HK2.out.lt)
          have HB3 := Lib.hid (HB2.out.trans (hb2.mono HB2.out.size))
          have k1 := (hk3.cell 1).trans rfl
          have lk3 := hk3.lt
          clear hb2 hk3 e0 e1 e2 e3 e4 e5 f1
          go_wp2_with fail
          go_ret3
          have h := HF.out
          subst h
          exact ⟨rfl, HB3.out⟩
        · rw [if_neg h0] at hF
          have hq0 : (q == 0) = false := beq_eq_false_iff_ne.2 h0
          have HF := Lib.hid hF
          clear hF h0
          go_wp2_with fail
          refine HM.out.mono ?_
          rintro e w2 ⟨rfl, hb2⟩
          have HK3 := Lib.hid (HK2.out.below hb2 HK2.out.lt)
          have HB3 := Lib.hid (HB2.out.trans (hb2.mono HB2.out.size))
          clear hb2 e0 e1 e2 e3 e4 e5 f1
          go_wp2_with fail
          go_roundw
          case rel => exact ⟨k + 1, _, by omega, by go_num, HF.out, HB3.out, HK3.out⟩
          case measure => simp [intOf]; omega
      · obtain rfl : k = 31 := by omega
        have HF := Lib.hid (show ((0 : Int), false) = r from hF)
        have HB := Lib.hid hB
        clear hF hB hK
        go_wp2_with fail
        go_ret3
        have h := HF.out
        subst h
        exact ⟨rfl, HB.out⟩
  · have hr : Cs.needF vs co dx dy = ((0, false), Cs.stepE vs co dx dy) := by rw [Cs.needF, if_pos he]
    rw [hr]
    dsimp only
    have hne : (Cs.stepE vs co dx dy != 0) = true := by simp [he]
    obtain ⟨s, hss⟩ : ∃ s, Cs.stepE vs co dx dy = s := ⟨_, rfl⟩
    rw [hss] at hst hne ⊢
    have HST := Lib.hid hst
    clear hst he hr hss
    go_enter Tryz.func44, Tryz.ntmps44
    go_wp2_with fail
    refine (HST.out _ HRD.out).mono ?_
    rintro e w1 ⟨rfl, hb1⟩
    have HB1 := Lib.hid (HB0.out.trans (hb1.mono HB0.out.size))
    clear hb1
    go_wp2_with fail
    go_ret3
    exact ⟨rfl, HB1.out⟩

end Go.Proofs.YtncdeogpmodoaaaGreatDoor
