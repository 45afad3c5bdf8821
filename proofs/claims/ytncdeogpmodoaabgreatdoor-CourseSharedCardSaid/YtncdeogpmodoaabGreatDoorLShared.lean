/-
  CourseShared: the law's walk.
-/
import Derived.Test.YtncdeogpmodoaabGreatDoorLExact
import Derived.Test.YtncdeogpmodoaabGreatDoorLCommon
set_option linter.unusedVariables false
set_option linter.unusedSimpArgs false
namespace Go.Proofs.YtncdeogpmodoaabGreatDoor
open Go.RowKit
set_option maxRecDepth 100000

namespace Cs
theorem east_all {vs : List (Int × Int)} {cs : List Co} {dx : Int} (h : eastE vs cs dx = 0) : ∀ c ∈ cs, eastE vs [c] dx = 0 := by
  obtain ⟨h1, h2, h3, h4⟩ := eastE_zero h
  intro c hc
  unfold checkE at h1
  split at h1
  · rename_i hv; exact absurd h1 hv
  · rename_i hv
    split at h1
    · rename_i ho
      split at h1
      · rename_i hd
        have o := List.all_eq_true.1 ho c hc
        have d := List.all_eq_true.1 hd c hc
        have : checkE vs [c] = 0 := by rw [checkE, if_neg hv, if_pos (by simpa using o), if_pos (by simpa using d)]
        rw [eastE, if_neg (by rw [this]; simp), if_neg (by omega)]
      · cases h1
    · cases h1
theorem fits_one {vs : List (Int × Int)} {c : Co} {dx : Int} (h : eastE vs [c] dx = 0) {y : Int} (h0 : -100000 ≤ y) (h1 : y ≤ 100000) : fitsF vs c dx y = (decide (misF vs c dx y = 0), 0) := by
  have hs : stepE vs c dx y = 0 := by rw [stepE, if_neg (by rw [h]; simp), if_neg (by omega)]
  rw [fitsF, misfitF, hs]
  simp
theorem comF_errs {vs : List (Int × Int)} {cs : List Co} {dx : Int} (h : (comF vs cs dx).2 ≠ 0) : (comF vs cs dx).1 = (0, 0, false) := by
  unfold comF at h ⊢
  split
  · rfl
  · split
    · rfl
    · split
      · rfl
      · rename_i h1 h2 h3
        rw [if_neg h1, if_neg h2, if_neg h3] at h
        exact absurd rfl h
theorem comF_good {vs : List (Int × Int)} {cs : List Co} {dx : Int} (h : (comF vs cs dx).2 = 0) : eastE vs cs dx = 0 ∧ (comF vs cs dx).1 = comG vs dx (-100000, 100000) cs := by
  unfold comF at h ⊢
  split at h
  · cases h
  · split at h
    · cases h
    · split at h
      · rename_i h1 h2 h3; exact absurd h h3
      · rename_i h1 h2 h3
        rw [if_neg h1, if_neg h2, if_neg h3]
        exact ⟨Decidable.not_not.1 h3, rfl⟩
def allF (vs : List (Int × Int)) (dx y : Int) (cs : List Co) : Bool := cs.all fun c => decide (misF vs c dx y = 0)
theorem allF_com {vs : List (Int × Int)} {cs : List Co} {dx : Int} (h : eastE vs cs dx = 0) {y : Int} (h0 : -100000 ≤ y) (h1 : y ≤ 100000) {lo hi : Int} {ok : Bool} (hr : comG vs dx (-100000, 100000) cs = (lo, hi, ok)) :
    allF vs dx y cs = (ok && (decide (lo ≤ y) && decide (y ≤ hi))) := by
  obtain ⟨_, h2, h3, h4⟩ := eastE_zero h
  have := comG_iff vs h2 h3 h4 cs (fun c hc => (east_ok (east_all h c hc)).1) (-100000) 100000 (by decide) (by decide) (by decide) h0 h1
  rw [hr] at this
  rw [Bool.eq_iff_iff, allF, List.all_eq_true]
  simp only [Bool.and_eq_true, decide_eq_true_eq]
  rw [← this]
  constructor
  · intro e; exact ⟨⟨h0, h1⟩, e⟩
  · intro e; exact e.2
theorem allF_step {vs : List (Int × Int)} {dx y : Int} {cs : List Co} {k : Nat} (hk : k < cs.length) : allF vs dx y (cs.take (k + 1)) = (allF vs dx y (cs.take k) && decide (misF vs cs[k] dx y = 0)) := by
  unfold allF
  rw [List.take_succ_eq_append_getElem hk, List.all_append]
  simp only [List.all_cons, List.all_nil, Bool.and_true]
end Cs

set_option maxHeartbeats 8000000 in
theorem courseShared_any (A A2 : Option Addr) (c c2 : Nat) (vs : List (Int × Int)) (cs : List Cs.Co) (dx dy : Int) (w : World) (hE : Env w) (hR : Rd w w.heap.size 2 A vs.length (vcells vs)) (hn : vs.length ≤ 9223372036854775807)
    (hC : Rd w w.heap.size 6 A2 cs.length (ccells cs)) (hm : cs.length ≤ 9223372036854775807) :
    Calls Tryz.prog 4 #[.slice A vs.length c, .slice A2 cs.length c2, .int .i64 dx, .int .i64 dy] w fun e w' => e = .returned (.bool true) ∧ Below w.heap.size w w' := by
  have s0 := Lib.hid (show Lc w A vs A2 cs w from ⟨Below.refl _ _, hE, hR, hC⟩)
  clear hE hR hC
  have hfew := few_any A c vs.length hn
  rcases hd : decide ((vs.length : Int) ≤ 60) with _ | _
  · rw [hd] at hfew
    have FE := Lib.hid hfew
    clear hfew hd hn
    go_enter Tryz.func4, Tryz.ntmps4
    go_wp2_with fail
    refine (FE.out _).mono ?_
    rintro e w' ⟨rfl, rfl⟩
    go_wp2_with fail
    refine (measured_any _ s0.out.e).mono ?_
    rintro e w9 ⟨rfl, hb⟩
    have s9 := Lib.hid (s0.out.next hb)
    clear hb
    go_wp2_with fail
    go_ret
    exact ⟨rfl, s9.out.b⟩
  · rw [hd] at hfew
    have hl : vs.length ≤ 60 := by have := of_decide_eq_true hd; omega
    have FE := Lib.hid hfew
    clear hfew hd hn
    rcases hg : decide (20 < (cs.length : Int)) with _ | _
    case true =>
      go_enter Tryz.func4, Tryz.ntmps4
      go_wp2_with fail
      refine (FE.out _).mono ?_
      rintro e w' ⟨rfl, rfl⟩
      go_wp2_with fail
      refine (measured_any _ s0.out.e).mono ?_
      rintro e w9 ⟨rfl, hb⟩
      have s9 := Lib.hid (s0.out.next hb)
      clear hb
      go_wp2_with fail
      go_ret
      exact ⟨rfl, s9.out.b⟩
    have hlc : cs.length ≤ 20 := by have := of_decide_eq_false hg; omega
    rcases hy0 : decide (dy < -100000) with _ | _
    case true =>
      go_enter Tryz.func4, Tryz.ntmps4
      go_wp2_with fail
      refine (FE.out _).mono ?_
      rintro e w' ⟨rfl, rfl⟩
      go_wp2_with fail
      refine (measured_any _ s0.out.e).mono ?_
      rintro e w9 ⟨rfl, hb⟩
      have s9 := Lib.hid (s0.out.next hb)
      clear hb
      go_wp2_with fail
      go_ret
      exact ⟨rfl, s9.out.b⟩
    rcases hy1 : decide (100000 < dy) with _ | _
    case true =>
      go_enter Tryz.func4, Tryz.ntmps4
      go_wp2_with fail
      refine (FE.out _).mono ?_
      rintro e w' ⟨rfl, rfl⟩
      go_wp2_with fail
      refine (measured_any _ s0.out.e).mono ?_
      rintro e w9 ⟨rfl, hb⟩
      have s9 := Lib.hid (s0.out.next hb)
      clear hb
      go_wp2_with fail
      go_ret
      exact ⟨rfl, s9.out.b⟩
    have r2 : -100000 ≤ dy := by have := of_decide_eq_false hy0; omega
    have r3 : dy ≤ 100000 := by have := of_decide_eq_false hy1; omega
    have b1 := fun W hs h q => Common_any A A2 c c2 vs cs dx W hs h (by omega) q (by omega)
    by_cases he : (Cs.comF vs cs dx).2 = 0
    · obtain ⟨heast, hcom⟩ := Cs.comF_good he
      have hrg := Cs.comG_range vs (dx := dx) cs (-100000) 100000 (by decide) (by decide) (by decide)
      obtain ⟨⟨lo, hi, ok⟩, hr⟩ : ∃ r, Cs.comG vs dx (-100000, 100000) cs = r := ⟨_, rfl⟩
      rw [he, hcom, hr] at b1
      simp only [hr] at hrg
      obtain ⟨q1, q2, q3, _⟩ := hrg
      dsimp only at b1
      have hall := fun y h0 h1 => Cs.allF_com heast (y := y) h0 h1 hr
      have b3 : ∀ (k : Nat) (hk : k < cs.length) (y : Int), -100000 ≤ y → y ≤ 100000 → ∀ W, Sn W → Rd W W.heap.size 2 A vs.length (vcells vs) → Calls Tryz.prog 13 #[.slice A vs.length c, .agg #[.int .i64 cs[k].b, .int .i64 cs[k].n, .int .i64 cs[k].l, .int .i64 cs[k].y, .int .i64 cs[k].w, .int .i64 cs[k].s], .int .i64 dx, .int .i64 y] W fun e w' => e = .returned (.tuple #[.bool (decide (Cs.misF vs cs[k] dx y = 0)), .int .i64 0]) ∧ Below W.heap.size W w' := fun k hk y h0 h1 W hs h => by
        have := Fits_any A c vs cs[k] dx y W hs h (by omega)
        rw [Cs.fits_one (Cs.east_all heast _ (List.getElem_mem hk)) h0 h1] at this
        exact this
      have B1 := Lib.hid b1
      have B3 := Lib.hid b3
      have HALL := Lib.hid hall
      clear b1 b3 hall hr hcom he heast
      go_enter Tryz.func4, Tryz.ntmps4
      go_wp2_with fail
      refine (FE.out _).mono ?_
      rintro e w' ⟨rfl, rfl⟩
      go_wp2_with fail
      refine (B1.out _ s0.out.e.sn s0.out.rd s0.out.rq).mono ?_
      rintro e w1 ⟨rfl, hb⟩
      have s1 := Lib.hid (s0.out.next hb)
      clear hb
      go_wp2_with fail
      obtain ⟨ys, hys⟩ : ∃ ys : List Int, [dy, lo - 1, lo, hi, hi + 1] = ys := ⟨_, rfl⟩
      have hyl : ys.length = 5 := by rw [← hys]; rfl
      have HYS := Lib.hid hys
      have HYL := Lib.hid hyl
      clear hys hyl
      go_loopw [14, 15, 16, 17, 18, 19] (fun I _ _ _ _ _ wr => ∃ k : Nat, k ≤ 5 ∧ I = .int .i64 k ∧ Lc w A vs A2 cs wr ∧ Bk wr w1.heap.size 3 (ys.map (Value.int .i64)).toArray) (fun I _ _ _ _ _ _ => 5 - (intOf I).toNat)
      case atStart =>
        refine ⟨0, by omega, rfl, s1.out.next ((Below.refl _ _).alloc (Nat.le_refl _) _), ?_⟩
        rw [← HYS.out]
        exact Bk.new w1 _ _
      case round =>
        clear HYS s1
        obtain ⟨k, hk, rfl, hS, hK⟩ := hrel
        have s2 := Lib.hid hS
        have K2 := Lib.hid hK
        clear hS
        by_cases hlt : k < 5
        · have hk5 : decide ((k : Int) < 5) = true := decide_eq_true (by omega)
          have e0 := hK.cell k
          rw [List.getElem?_toArray, List.getElem?_map, List.getElem?_eq_getElem (by rw [HYL.out]; exact hlt), Option.map_some] at e0
          have bl := hK.lt
          obtain ⟨y, hyy⟩ : ∃ y, ys[k]'(by rw [HYL.out]; exact hlt) = y := ⟨_, rfl⟩
          rw [hyy] at e0
          clear hyy hK
          by_cases hy : -100000 ≤ y ∧ y ≤ 100000
          · have hd1 : decide (y < -100000) = false := decide_eq_false (by omega)
            have hd2 : decide (100000 < y) = false := decide_eq_false (by omega)
            have B4 := Lib.hid (fun k hk => B3.out k hk y hy.1 hy.2)
            have HA := Lib.hid (HALL.out y hy.1 hy.2)
            clear B3 hy HALL
            go_wp2_with fail
            go_loopw [16, 17, 18, 19] (fun AL J _ _ wx => ∃ (j : Nat) (a : Bool), j ≤ cs.length ∧ J = .int .i64 j ∧ AL = .bool a ∧ Cs.allF vs dx y (cs.take j) = a ∧ Lc w A vs A2 cs wx ∧ Bk wx w1.heap.size 3 (ys.map (Value.int .i64)).toArray) (fun _ J _ _ _ => cs.length - (intOf J).toNat)
            case atStart => exact ⟨0, true, Nat.zero_le _, rfl, rfl, rfl, s2.out, K2.out⟩
            case round =>
              clear s2 K2 e0 bl
              obtain ⟨j, a, hj, rfl, rfl, ha, hS, hK⟩ := hrel
              have s2 := Lib.hid hS
              have K2 := Lib.hid hK
              clear hS hK
              by_cases hjl : j < cs.length
              · have hj5 : decide ((j : Int) < (cs.length : Int)) = true := decide_eq_true (by omega)
                have hst := Cs.allF_step (vs := vs) (dx := dx) (y := y) hjl
                rw [ha] at hst
                have b := B4.out j hjl
                obtain ⟨f, hf⟩ : ∃ f, decide (Cs.misF vs cs[j] dx y = 0) = f := ⟨_, rfl⟩
                rw [hf] at b hst
                obtain ⟨bc, oc, rfl, hbc, e1, e2, e3, e4, e5, e6⟩ := s2.out.rq.course hjl
                obtain ⟨x, hx⟩ : ∃ x, cs[j] = x := ⟨_, rfl⟩
                rw [hx] at e1 e2 e3 e4 e5 e6 b
                have B := Lib.hid b
                have HST := Lib.hid hst
                clear b hf hx hst ha B4 HA
                rcases a with _ | _ <;> rcases f with _ | _
                · go_wp2_with fail
                  refine (B.out _ s2.out.e.sn s2.out.rd).mono ?_
                  rintro e w2 ⟨rfl, hb⟩
                  have s3 := Lib.hid (s2.out.next hb)
                  have K3 := Lib.hid (K2.out.below hb K2.out.lt)
                  clear hb e1 e2 e3 e4 e5 e6 hbc
                  go_wp2_with fail
                  go_roundw
                  case rel => exact ⟨j + 1, _, by omega, by go_num, rfl, HST.out, s3.out, K3.out⟩
                  case measure => simp [intOf]; omega
                · go_wp2_with fail
                  refine (B.out _ s2.out.e.sn s2.out.rd).mono ?_
                  rintro e w2 ⟨rfl, hb⟩
                  have s3 := Lib.hid (s2.out.next hb)
                  have K3 := Lib.hid (K2.out.below hb K2.out.lt)
                  clear hb e1 e2 e3 e4 e5 e6 hbc
                  go_wp2_with fail
                  go_roundw
                  case rel => exact ⟨j + 1, _, by omega, by go_num, rfl, HST.out, s3.out, K3.out⟩
                  case measure => simp [intOf]; omega
                · go_wp2_with fail
                  refine (B.out _ s2.out.e.sn s2.out.rd).mono ?_
                  rintro e w2 ⟨rfl, hb⟩
                  have s3 := Lib.hid (s2.out.next hb)
                  have K3 := Lib.hid (K2.out.below hb K2.out.lt)
                  clear hb e1 e2 e3 e4 e5 e6 hbc
                  go_wp2_with fail
                  go_roundw
                  case rel => exact ⟨j + 1, _, by omega, by go_num, rfl, HST.out, s3.out, K3.out⟩
                  case measure => simp [intOf]; omega
                · go_wp2_with fail
                  refine (B.out _ s2.out.e.sn s2.out.rd).mono ?_
                  rintro e w2 ⟨rfl, hb⟩
                  have s3 := Lib.hid (s2.out.next hb)
                  have K3 := Lib.hid (K2.out.below hb K2.out.lt)
                  clear hb e1 e2 e3 e4 e5 e6 hbc
                  go_wp2_with fail
                  go_roundw
                  case rel => exact ⟨j + 1, _, by omega, by go_num, rfl, HST.out, s3.out, K3.out⟩
                  case measure => simp [intOf]; omega
              · obtain rfl : j = cs.length := by omega
                have h := HA.out
                rw [List.take_length] at ha
                rw [ha] at h
                clear ha HA B4
                rcases ok with _ | _
                · simp only [Bool.false_and] at h
                  subst h
                  go_wp2_with fail
                  go_roundw
                  case rel => exact ⟨k + 1, by omega, by go_num, s2.out, K2.out⟩
                  case measure => simp [intOf]; omega
                · rcases g1 : decide (lo ≤ y) with _ | _
                  · rw [g1] at h
                    simp only [Bool.false_and, Bool.and_false] at h
                    subst h
                    go_wp2_with fail
                    go_roundw
                    case rel => exact ⟨k + 1, by omega, by go_num, s2.out, K2.out⟩
                    case measure => simp [intOf]; omega
                  · rcases g2 : decide (y ≤ hi) with _ | _
                    · rw [g1, g2] at h
                      simp only [Bool.false_and, Bool.and_false] at h
                      subst h
                      go_wp2_with fail
                      go_roundw
                      case rel => exact ⟨k + 1, by omega, by go_num, s2.out, K2.out⟩
                      case measure => simp [intOf]; omega
                    · rw [g1, g2] at h
                      simp only [Bool.and_self] at h
                      subst h
                      go_wp2_with fail
                      go_roundw
                      case rel => exact ⟨k + 1, by omega, by go_num, s2.out, K2.out⟩
                      case measure => simp [intOf]; omega
          · by_cases h1 : y < -100000
            · have hd1 : decide (y < -100000) = true := decide_eq_true h1
              clear B3 hy h1 HALL
              go_wp2_with fail
              go_roundw
              case rel => exact ⟨k + 1, by omega, by go_num, s2.out, K2.out⟩
              case measure => simp [intOf]; omega
            · have hd1 : decide (y < -100000) = false := decide_eq_false h1
              have hd2 : decide (100000 < y) = true := decide_eq_true (by omega)
              clear B3 hy h1 HALL
              go_wp2_with fail
              go_roundw
              case rel => exact ⟨k + 1, by omega, by go_num, s2.out, K2.out⟩
              case measure => simp [intOf]; omega
        · obtain rfl : k = 5 := by omega
          clear B3 B1 hK HALL
          go_wp2_with fail
          refine (measured_any _ s2.out.e).mono ?_
          rintro e w9 ⟨rfl, hb⟩
          have s9 := Lib.hid (s2.out.next hb)
          clear hb
          go_wp2_with fail
          go_ret
          exact ⟨rfl, s9.out.b⟩
    · have hz := Cs.comF_errs he
      rw [hz] at b1
      dsimp only at b1
      obtain ⟨e, hee⟩ : ∃ e, (Cs.comF vs cs dx).2 = e := ⟨_, rfl⟩
      rw [hee] at b1 he
      have hne : (e != 0) = true := by simp [he]
      have B1 := Lib.hid b1
      clear b1 hee he hz
      go_enter Tryz.func4, Tryz.ntmps4
      go_wp2_with fail
      refine (FE.out _).mono ?_
      rintro e w' ⟨rfl, rfl⟩
      go_wp2_with fail
      refine (B1.out _ s0.out.e.sn s0.out.rd s0.out.rq).mono ?_
      rintro e w1 ⟨rfl, hb⟩
      have s1 := Lib.hid (s0.out.next hb)
      clear hb
      go_wp2_with fail
      refine (measured_any _ s1.out.e).mono ?_
      rintro e w9 ⟨rfl, hb⟩
      have s9 := Lib.hid (s1.out.next hb)
      clear hb
      go_wp2_with fail
      go_ret
      exact ⟨rfl, s9.out.b⟩

end Go.Proofs.YtncdeogpmodoaabGreatDoor
