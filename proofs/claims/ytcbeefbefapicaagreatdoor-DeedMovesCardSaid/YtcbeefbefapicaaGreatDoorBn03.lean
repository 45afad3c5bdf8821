/-
  What the claims of layer deed need of the texts Sin, Chk, Var, Dec, Gate, Aim, Cond, Step.
-/
import Derived.Laws.EntriesVeiled
import Derived.Test.YtcbeefbefapicaaGreatDoorBn02
set_option linter.unusedVariables false
set_option linter.unusedSimpArgs false
namespace Go.Proofs.YtcbeefbefapicaaGreatDoor
open Go.RowKit
def Sn (w : World) : Prop := 5 < w.heap.size ∧ ∀ k : Nat, k < 91 → w.cell? ⟨5, k, none⟩ = some (.int .i64 (Cs.tb k))
theorem Sn.below {w w' : World} {C : Nat} (h : Sn w) (hb : Below C w w') (hC : 5 < C) : Sn w' :=
 ⟨Nat.lt_of_lt_of_le h.1 hb.size, fun k hk => (hb.cell (p := ⟨5, k, none⟩) hC).trans (h.2 k hk)⟩
theorem Sn.step {w w' : World} (h : Sn w) (hb : Below w.heap.size w w') : Sn w' := h.below hb h.1
theorem rootUp_any (n : Int) (hn : -9223372036854775808 ≤ n) (hn' : n ≤ 9223372036854775807) (w : World) :
  Calls Tryz.prog 196 #[.int .i64 n] w fun e w' => e = .returned (.int .i64 (Cs.rootUp n)) ∧ w = w' := by
 obtain ⟨r0, r1⟩ := Cs.root_le hn'
 have hR := fun w => root_any n hn hn' w
 have hu : Cs.rootUp n = if Cs.root n * Cs.root n < n then Cs.root n + 1 else Cs.root n := rfl
 obtain ⟨r, hr⟩ : ∃ r, Cs.root n = r := ⟨_, rfl⟩
 simp only [hr] at hR hu r0 r1
 have HR := Lib.hid hR
 have hm1 : r * r ≤ 9223372036854775807 := by
  have : r * r ≤ 3037000499 * 3037000499 := Int.mul_le_mul r1 r1 r0 (by decide)
  omega
 have hm0 : 0 ≤ r * r := Int.mul_nonneg r0 r0
 clear hR hr
 by_cases h : r * r < n
 ·rw [if_pos h] at hu
  rw [hu]
  clear hu
  go_enter Tryz.func196, Tryz.ntmps196
  go_wp2_with (go_at_call 191; refine (HR.out _).mono ?_; rintro e w' ⟨rfl, rfl⟩)
  go_ret
  exact ⟨rfl, rfl⟩
 ·rw [if_neg h] at hu
  rw [hu]
  clear hu
  go_enter Tryz.func196, Tryz.ntmps196
  go_wp2_with (go_at_call 191; refine (HR.out _).mono ?_; rintro e w' ⟨rfl, rfl⟩)
  go_ret
  exact ⟨rfl, rfl⟩
theorem sin_any (d : Int) (w : World) (hs : Sn w) :
  Calls Tryz.prog 194 #[.int .i64 d] w fun e w' => e = .returned (.int .i64 (Cs.sin d)) ∧ w = w' := by
 have hN := fun w => norm_any d w
 obtain ⟨n0, n1⟩ := Cs.norm_range d
 have hu : Cs.sin d = Cs.sinI (Cs.norm d) := rfl
 obtain ⟨n, hn⟩ : ∃ n, Cs.norm d = n := ⟨_, rfl⟩
 simp only [hn] at hN hu n0 n1
 obtain ⟨m, rfl⟩ : ∃ m : Nat, n = m := ⟨n.toNat, by omega⟩
 rw [hu]
 rw [Cs.sinI]
 have HN := Lib.hid hN
 clear hN hn hu n0
 have hl := hs.1
 by_cases h1 : 180 < m
 ·rw [if_pos (by omega)]
  by_cases h2 : 90 < m - 180
  ·rw [if_pos (by omega)]
   have e := hs.2 (360 - m) (by omega)
   have hb := Cs.tb_range ((360 : Int) - (m : Int))
   rw [show ((360 - m : Nat) : Int) = 360 - (m : Int) by omega] at e
   obtain ⟨x, hx⟩ : ∃ x, Cs.tb ((360 : Int) - (m : Int)) = x := ⟨_, rfl⟩
   rw [hx] at e hb ⊢
   obtain ⟨hb0, hb1⟩ := hb
   have i1 : (180 : Int) < (m : Int) := by omega
   have i2 : (90 : Int) < (m : Int) - 180 := by omega
   have i3 : ((180 : Int) - ((m : Int) - 180)).toNat = 360 - m := by omega
   clear hx hs
   go_enter Tryz.func194, Tryz.ntmps194
   go_wp2_with (go_at_call 79; refine (HN.out _).mono ?_; rintro e w' ⟨rfl, rfl⟩)
   go_ret
   exact ⟨rfl, rfl⟩
  ·rw [if_neg (by omega)]
   have e := hs.2 (m - 180) (by omega)
   have hb := Cs.tb_range ((m : Int) - 180)
   rw [show ((m - 180 : Nat) : Int) = (m : Int) - 180 by omega] at e
   obtain ⟨x, hx⟩ : ∃ x, Cs.tb ((m : Int) - 180) = x := ⟨_, rfl⟩
   rw [hx] at e hb ⊢
   obtain ⟨hb0, hb1⟩ := hb
   have i1 : (180 : Int) < (m : Int) := by omega
   have i2 : (m : Int) - 180 ≤ 90 := by omega
   have i3 : ((m : Int) - 180).toNat = m - 180 := by omega
   clear hx hs
   go_enter Tryz.func194, Tryz.ntmps194
   go_wp2_with (go_at_call 79; refine (HN.out _).mono ?_; rintro e w' ⟨rfl, rfl⟩)
   go_ret
   exact ⟨rfl, rfl⟩
 ·rw [if_neg (by omega)]
  by_cases h2 : 90 < m
  ·rw [if_pos (by omega)]
   have e := hs.2 (180 - m) (by omega)
   have hb := Cs.tb_range ((180 : Int) - (m : Int))
   rw [show ((180 - m : Nat) : Int) = 180 - (m : Int) by omega] at e
   obtain ⟨x, hx⟩ : ∃ x, Cs.tb ((180 : Int) - (m : Int)) = x := ⟨_, rfl⟩
   rw [hx] at e hb ⊢
   obtain ⟨hb0, hb1⟩ := hb
   have i1 : (m : Int) ≤ 180 := by omega
   have i2 : (90 : Int) < (m : Int) := by omega
   have i3 : ((180 : Int) - (m : Int)).toNat = 180 - m := by omega
   clear hx hs
   go_enter Tryz.func194, Tryz.ntmps194
   go_wp2_with (go_at_call 79; refine (HN.out _).mono ?_; rintro e w' ⟨rfl, rfl⟩)
   go_ret
   exact ⟨rfl, rfl⟩
  ·rw [if_neg (by omega)]
   have e := hs.2 (m) (by omega)
   have hb := Cs.tb_range ((m : Int))
   obtain ⟨x, hx⟩ : ∃ x, Cs.tb ((m : Int)) = x := ⟨_, rfl⟩
   rw [hx] at e hb ⊢
   obtain ⟨hb0, hb1⟩ := hb
   have i1 : (m : Int) ≤ 180 := by omega
   have i2 : (m : Int) ≤ 90 := by omega
   clear hx hs
   go_enter Tryz.func194, Tryz.ntmps194
   go_wp2_with (go_at_call 79; refine (HN.out _).mono ?_; rintro e w' ⟨rfl, rfl⟩)
   go_ret
   exact ⟨rfl, rfl⟩
theorem cos_any (d : Int) (w : World) (hs : Sn w) :
  Calls Tryz.prog 193 #[.int .i64 d] w fun e w' => e = .returned (.int .i64 (Cs.cos d)) ∧ w = w' := by
 have hN := fun w => norm_any d w
 obtain ⟨n0, n1⟩ := Cs.norm_range d
 have hu : Cs.cos d = Cs.sin (Cs.norm d + 90) := rfl
 rw [hu]
 obtain ⟨n, hn⟩ : ∃ n, Cs.norm d = n := ⟨_, rfl⟩
 simp only [hn] at hN n0 n1 ⊢
 have HN := Lib.hid hN
 have HS := Lib.hid hs
 clear hN hn hu hs
 go_enter Tryz.func193, Tryz.ntmps193
 go_wp2_with (first
  | (go_at_call 79; refine (HN.out _).mono ?_; rintro e w' ⟨rfl, rfl⟩)
  | (go_at_call 194; refine (sin_any (n + 90) _ HS.out).mono ?_; rintro e w' ⟨rfl, rfl⟩))
 go_ret
 exact ⟨rfl, rfl⟩
end Go.Proofs.YtcbeefbefapicaaGreatDoor

namespace Go.Proofs.YtcbeefbefapicaaGreatDoor
open Go.RowKit
set_option maxRecDepth 100000
namespace Cs
theorem chainE_ok {w s : Int} (h1 : -500 ≤ w) (h2 : w ≤ 500) (h3 : 0 ≤ s) (h4 : s ≤ 200) : chainE w s = 0 := by
 unfold chainE chainOk
 rw [if_pos (by simp; omega)]
theorem chainE_no {w s : Int} (h : ¬ (-500 ≤ w ∧ w ≤ 500 ∧ 0 ≤ s ∧ s ≤ 200)) : chainE w s = 1 := by
 unfold chainE chainOk
 rw [if_neg (by simpa using h)]
abbrev okC (c : Co) : Prop := (0 ≤ c.b ∧ c.b ≤ 359) ∧ (0 ≤ c.n ∧ c.n ≤ 30) ∧ (1 ≤ c.l ∧ c.l ≤ 100000) ∧ 1 ≤ c.y ∧ c.y ≤ 3000
theorem courseE_ok {c : Co} (h : okC c) : courseE c = chainE c.w c.s := by
 unfold courseE courseOk chainE
 rw [decide_eq_true h]
 simp
theorem courseE_no {c : Co} (h : ¬ okC c) : courseE c = 1 := by
 unfold courseE courseOk
 rw [decide_eq_false h]
 simp
end Cs
set_option maxHeartbeats 1000000 in
theorem checkChain_any (a s : Int) (w : World) :
  Calls Tryz.prog 78 #[.agg #[.int .i64 a, .int .i64 s]] w fun e w' => e = .returned (.int .i64 (Cs.chainE a s)) ∧ Below w.heap.size w w' := by
 have HB := Lib.hid ((Below.refl w.heap.size w).alloc (Nat.le_refl _) (.cells #[.int .i64 a, .int .i64 s] 38))
 by_cases h : -500 ≤ a ∧ a ≤ 500
 ·by_cases h2 : 0 ≤ s ∧ s ≤ 200
  ·rw [Cs.chainE_ok h.1 h.2 h2.1 h2.2]
   have d1 : decide (-500 ≤ a ∧ a ≤ 500) = true := decide_eq_true h
   have d2 : decide (0 ≤ s ∧ s ≤ 200) = true := decide_eq_true h2
   clear h h2
   go_enter Tryz.func78, Tryz.ntmps78
   go_wp2_with (go_at_call 77; refine (between_any _ _ _ _).mono ?_; (first | rw [d1] | rw [d2]); rintro e w' ⟨rfl, rfl⟩)
   go_ret
   exact ⟨rfl, HB.out⟩
  ·rw [Cs.chainE_no (by omega)]
   have d1 : decide (-500 ≤ a ∧ a ≤ 500) = true := decide_eq_true h
   have d2 : decide (0 ≤ s ∧ s ≤ 200) = false := decide_eq_false h2
   clear h h2
   go_enter Tryz.func78, Tryz.ntmps78
   go_wp2_with (go_at_call 77; refine (between_any _ _ _ _).mono ?_; (first | rw [d1] | rw [d2]); rintro e w' ⟨rfl, rfl⟩)
   go_ret
   exact ⟨rfl, HB.out⟩
 ·rw [Cs.chainE_no (by omega)]
  have d1 : decide (-500 ≤ a ∧ a ≤ 500) = false := decide_eq_false h
  clear h
  go_enter Tryz.func78, Tryz.ntmps78
  go_wp2_with (go_at_call 77; refine (between_any _ _ _ _).mono ?_; rw [d1]; rintro e w' ⟨rfl, rfl⟩)
  go_ret
  exact ⟨rfl, HB.out⟩
set_option maxHeartbeats 1000000 in
theorem checkCourse_any (c : Cs.Co) (w : World) :
  Calls Tryz.prog 38 #[cval c] w fun e w' => e = .returned (.int .i64 (Cs.courseE c)) ∧ Below w.heap.size w w' := by
 obtain ⟨b, n, l, y, a, s⟩ := c
 have hB0 := (Below.refl w.heap.size w).alloc (Nat.le_refl _) (.cells #[.int .i64 b, .int .i64 n, .int .i64 l, .int .i64 y, .int .i64 a, .int .i64 s] 40)
 have HB := Lib.hid hB0
 clear hB0
 show Calls Tryz.prog 38 #[.agg #[.int .i64 b, .int .i64 n, .int .i64 l, .int .i64 y, .int .i64 a, .int .i64 s]] w _
 obtain ⟨x, hx⟩ : ∃ x, Cs.courseE ⟨b, n, l, y, a, s⟩ = x := ⟨_, rfl⟩
 rw [hx]
 by_cases h : Cs.okC ⟨b, n, l, y, a, s⟩
 ·rw [Cs.courseE_ok h] at hx
  obtain ⟨g1, g2, g3, g4⟩ := h
  dsimp only at hx g1 g2 g3 g4
  have d1 : decide (0 ≤ b ∧ b ≤ 359) = true := decide_eq_true g1
  have d2 : decide (0 ≤ n ∧ n ≤ 30) = true := decide_eq_true g2
  have d3 : decide (1 ≤ l ∧ l ≤ 100000) = true := decide_eq_true g3
  have d4 : decide (1 ≤ y ∧ y ≤ 3000) = true := decide_eq_true g4
  have hch := fun w => checkChain_any a s w
  rw [hx] at hch
  have HC := Lib.hid hch
  clear g1 g2 g3 g4 hx hch
  go_enter Tryz.func38, Tryz.ntmps38
  go_wp2_with (first
   | (go_at_call 77; refine (between_any _ _ _ _).mono ?_; (first | rw [d1] | rw [d2] | rw [d3] | rw [d4]); rintro e w' ⟨rfl, rfl⟩)
   | (go_at_call 78; refine (HC.out _).mono ?_; rintro e w1 ⟨rfl, hb⟩))
  go_ret
  exact ⟨rfl, HB.out.trans (hb.mono HB.out.size)⟩
 ·rw [Cs.courseE_no h] at hx
  subst hx
  unfold Cs.okC at h
  dsimp only at h
  by_cases g1 : 0 ≤ b ∧ b ≤ 359
  ·have d1 : decide (0 ≤ b ∧ b ≤ 359) = true := decide_eq_true g1
   by_cases g2 : 0 ≤ n ∧ n ≤ 30
   ·have d2 : decide (0 ≤ n ∧ n ≤ 30) = true := decide_eq_true g2
    by_cases g3 : 1 ≤ l ∧ l ≤ 100000
    ·have d3 : decide (1 ≤ l ∧ l ≤ 100000) = true := decide_eq_true g3
     have d4 : decide (1 ≤ y ∧ y ≤ 3000) = false := decide_eq_false (fun g4 => h ⟨g1, g2, g3, g4⟩)
     clear g1 g2 g3 h
     go_enter Tryz.func38, Tryz.ntmps38
     go_wp2_with (go_at_call 77; refine (between_any _ _ _ _).mono ?_; (first | rw [d1] | rw [d2] | rw [d3] | rw [d4]); rintro e w' ⟨rfl, rfl⟩)
     go_ret
     exact ⟨rfl, HB.out⟩
    ·have d3 : decide (1 ≤ l ∧ l ≤ 100000) = false := decide_eq_false g3
     clear g1 g2 g3 h
     go_enter Tryz.func38, Tryz.ntmps38
     go_wp2_with (go_at_call 77; refine (between_any _ _ _ _).mono ?_; (first | rw [d1] | rw [d2] | rw [d3]); rintro e w' ⟨rfl, rfl⟩)
     go_ret
     exact ⟨rfl, HB.out⟩
   ·have d2 : decide (0 ≤ n ∧ n ≤ 30) = false := decide_eq_false g2
    clear g1 g2 h
    go_enter Tryz.func38, Tryz.ntmps38
    go_wp2_with (go_at_call 77; refine (between_any _ _ _ _).mono ?_; (first | rw [d1] | rw [d2]); rintro e w' ⟨rfl, rfl⟩)
    go_ret
    exact ⟨rfl, HB.out⟩
  ·have d1 : decide (0 ≤ b ∧ b ≤ 359) = false := decide_eq_false g1
   clear g1 h
   go_enter Tryz.func38, Tryz.ntmps38
   go_wp2_with (go_at_call 77; refine (between_any _ _ _ _).mono ?_; rw [d1]; rintro e w' ⟨rfl, rfl⟩)
   go_ret
   exact ⟨rfl, HB.out⟩
end Go.Proofs.YtcbeefbefapicaaGreatDoor

namespace Go.Proofs.YtcbeefbefapicaaGreatDoor
open Go.RowKit
set_option maxRecDepth 100000
theorem below_drewN {C : Nat} {w w' : World} (h : Below C w w') (n : Nat) : Below C w (w'.drewN n) := ⟨h.os, h.tape, h.output, h.size, h.block⟩
namespace Cs
theorem okV_step {b : Int} {vs : List (Int × Int)} {k : Nat} (hk : k < vs.length) (h : okV 0 vs = okV b (vs.drop k)) :
  (b + 1 ≤ vs[k].1 ∧ vs[k].1 ≤ 3000 ∧ -60 ≤ vs[k].2 ∧ vs[k].2 ≤ 60 → okV 0 vs = okV vs[k].1 (vs.drop (k + 1))) ∧
   (¬ (b + 1 ≤ vs[k].1 ∧ vs[k].1 ≤ 3000 ∧ -60 ≤ vs[k].2 ∧ vs[k].2 ≤ 60) → okV 0 vs = false) := by
 rw [List.drop_eq_getElem_cons hk] at h
 obtain ⟨⟨y, e⟩, hv⟩ : ∃ v, vs[k] = v := ⟨_, rfl⟩
 rw [hv] at h ⊢
 dsimp only
 rw [h, okV]
 constructor
 ·intro hh
  rw [decide_eq_true hh, Bool.true_and]
 ·intro hh
  rw [decide_eq_false hh, Bool.false_and]
theorem varsE_long {vs : List (Int × Int)} (h : 40 < vs.length) : varsE vs = 2 := by rw [varsE, if_pos h]
theorem varsE_ok {vs : List (Int × Int)} (h : ¬ 40 < vs.length) (hk : okV 0 vs = true) : varsE vs = 0 := by rw [varsE, if_neg h, if_pos hk]
theorem varsE_no {vs : List (Int × Int)} (h : ¬ 40 < vs.length) (hk : okV 0 vs = false) : varsE vs = 1 := by rw [varsE, if_neg h, if_neg (by rw [hk]; simp)]
end Cs
set_option maxHeartbeats 2000000 in
theorem checkVariations_any (A : Option Addr) (c : Nat) (vs : List (Int × Int)) (w : World) (hR : Rd w w.heap.size 2 A vs.length (vcells vs)) (hl : vs.length ≤ 1000000) :
  Calls Tryz.prog 43 #[.slice A vs.length c] w fun e w' => e = .returned (.int .i64 (Cs.varsE vs)) ∧ Below w.heap.size w w' := by
 by_cases h40 : 40 < vs.length
 ·rw [Cs.varsE_long h40]
  go_enter Tryz.func43, Tryz.ntmps43
  go_wp2
  go_ret
  exact ⟨rfl, Below.refl _ _⟩
 ·have hok := fun h => Cs.varsE_ok h40 h
  have hno := fun h => Cs.varsE_no h40 h
  obtain ⟨r, hr⟩ : ∃ r, Cs.varsE vs = r := ⟨_, rfl⟩
  rw [hr] at hok hno ⊢
  have h40' : vs.length ≤ 40 := by omega
  have HOK := Lib.hid hok
  have HNO := Lib.hid hno
  have h41 : (vs.length : Int) ≤ 40 := by omega
  clear hok hno hr h40
  go_enter Tryz.func43, Tryz.ntmps43
  go_wp2
  go_loopw [3, 11] (fun B I wr => ∃ (k : Nat) (b : Int), k ≤ vs.length ∧ I = .int .i64 k ∧ B = .int .i64 b ∧ 0 ≤ b ∧ b ≤ 3000 ∧ Cs.okV 0 vs = Cs.okV b (vs.drop k) ∧ Below w.heap.size w wr)
   (fun _ I _ => vs.length - (intOf I).toNat)
  case atStart => exact ⟨0, 0, Nat.zero_le _, rfl, rfl, by omega, by omega, by simp, Below.refl _ _⟩
  case round =>
   obtain ⟨k, b, hk, rfl, rfl, hb0, hb1, hF, hB⟩ := hrel
   by_cases hlt : k < vs.length
   ·obtain ⟨hs1, hs2⟩ := Cs.okV_step hlt hF
    obtain ⟨bv, ov, rfl, hbv, e0, e1⟩ := (hR.below hB (Nat.le_refl _)).var hlt
    obtain ⟨⟨y, e⟩, hv⟩ : ∃ v, vs[k] = v := ⟨_, rfl⟩
    rw [hv] at hs1 hs2 e0 e1
    dsimp only at hs1 hs2 e0 e1
    have hB2 := hB.alloc hB.size (.cells #[.int .i64 y, .int .i64 e] 139)
    have HB2 := Lib.hid hB2
    clear hB2 hv hF
    by_cases g1 : b + 1 ≤ y ∧ y ≤ 3000
    ·have d1 : decide (b + 1 ≤ y ∧ y ≤ 3000) = true := decide_eq_true g1
     by_cases g2 : -60 ≤ e ∧ e ≤ 60
     ·have d2 : decide (-60 ≤ e ∧ e ≤ 60) = true := decide_eq_true g2
      have HF := Lib.hid (hs1 ⟨g1.1, g1.2, g2.1, g2.2⟩)
      obtain ⟨g3, g4⟩ := g1
      clear hs1 hs2 g2
      go_wp2_with (go_at_call 77; refine (between_any _ _ _ _).mono ?_; (first | rw [d1] | rw [d2]); rintro e w' ⟨rfl, rfl⟩)
      go_roundw
      case rel => exact ⟨k + 1, y, by omega, by go_num, rfl, by omega, by omega, HF.out, HB2.out⟩
      case measure => simp [intOf]; omega
     ·have d2 : decide (-60 ≤ e ∧ e ≤ 60) = false := decide_eq_false g2
      have HF := Lib.hid (HNO.out (hs2 (fun h => g2 h.2.2)))
      clear hs1 hs2 g1 g2
      go_wp2_with (go_at_call 77; refine (between_any _ _ _ _).mono ?_; (first | rw [d1] | rw [d2]); rintro e w' ⟨rfl, rfl⟩)
      go_ret
      exact ⟨ret_int (by rw [HF.out]), HB2.out⟩
    ·have d1 : decide (b + 1 ≤ y ∧ y ≤ 3000) = false := decide_eq_false g1
     have HF := Lib.hid (HNO.out (hs2 (fun h => g1 ⟨h.1, h.2.1⟩)))
     clear hs1 hs2 g1
     go_wp2_with (go_at_call 77; refine (between_any _ _ _ _).mono ?_; rw [d1]; rintro e w' ⟨rfl, rfl⟩)
     go_ret
     exact ⟨ret_int (by rw [HF.out]), HB2.out⟩
   ·obtain rfl : k = vs.length := by omega
    rw [List.drop_length] at hF
    have HF := Lib.hid (HOK.out hF)
    clear hF
    go_wp2
    go_ret
    exact ⟨ret_int (by rw [HF.out]), hB⟩
end Go.Proofs.YtcbeefbefapicaaGreatDoor

namespace Go.Proofs.YtcbeefbefapicaaGreatDoor
open Go.RowKit
set_option maxRecDepth 100000
namespace Cs
theorem dec_ok {vs : List (Int × Int)} (h : varsE vs = 0) (year : Int) : dec vs year = decG year (0, false) vs := by rw [dec, if_pos h]
theorem dec_no {vs : List (Int × Int)} (h : varsE vs ≠ 0) (year : Int) : dec vs year = (0, false) := by rw [dec, if_neg h]
theorem varsE_len {vs : List (Int × Int)} (h : varsE vs = 0) : vs.length ≤ 40 := by
 unfold varsE at h
 split at h
 ·cases h
 ·omega
theorem decG_step {year : Int} {vs : List (Int × Int)} {k : Nat} {acc : Int × Bool} (hk : k < vs.length) : decG year acc (vs.drop k) = decG year (if vs[k].1 ≤ year then (vs[k].2, true) else acc) (vs.drop (k + 1)) := by
 rw [List.drop_eq_getElem_cons hk]
 rfl
end Cs
set_option maxHeartbeats 2000000 in
theorem declination_any (A : Option Addr) (c : Nat) (vs : List (Int × Int)) (year : Int) (w : World) (hR : Rd w w.heap.size 2 A vs.length (vcells vs)) (hl : vs.length ≤ 1000000) :
  Calls Tryz.prog 189 #[.slice A vs.length c, .int .i64 year] w fun e w' => e = .returned (.tuple #[.int .i64 (Cs.dec vs year).1, .bool (Cs.dec vs year).2]) ∧ Below w.heap.size w w' := by
 have hcv := checkVariations_any A c vs w hR hl
 by_cases hs : Cs.varsE vs = 0
 ·rw [hs] at hcv
  have h40 := Cs.varsE_len hs
  rw [Cs.dec_ok hs]
  obtain ⟨r, hr⟩ : ∃ r, Cs.decG year (0, false) vs = r := ⟨_, rfl⟩
  have hr0 : Cs.decG year (0, false) (vs.drop 0) = r := by simpa using hr
  rw [hr]
  have HCV := Lib.hid hcv
  have HR0 := Lib.hid hr0
  clear hcv hr0 hr hs
  go_enter Tryz.func189, Tryz.ntmps189
  go_wp2_with fail
  refine HCV.out.mono ?_
  rintro e w1 ⟨rfl, hb1⟩
  go_wp2_with fail
  go_loopw [6, 7, 15] (fun E K I wr => ∃ (k : Nat) (x : Int) (b : Bool), k ≤ vs.length ∧ I = .int .i64 k ∧ E = .int .i64 x ∧ K = .bool b ∧ Cs.decG year (x, b) (vs.drop k) = r ∧ Below w.heap.size w wr)
   (fun _ _ I _ => vs.length - (intOf I).toNat)
  case atStart => exact ⟨0, 0, false, Nat.zero_le _, rfl, rfl, rfl, HR0.out, hb1⟩
  case round =>
   clear hb1
   obtain ⟨k, x, b, hk, rfl, rfl, rfl, hF, hB⟩ := hrel
   by_cases hlt : k < vs.length
   ·rw [Cs.decG_step hlt] at hF
    obtain ⟨bv, ov, rfl, hbv, e0, e1⟩ := (hR.below hB (Nat.le_refl _)).var hlt
    obtain ⟨⟨y, e⟩, hv⟩ : ∃ v, vs[k] = v := ⟨_, rfl⟩
    rw [hv] at e0 e1 hF
    dsimp only at e0 e1 hF
    have HB2 := Lib.hid (hB.alloc hB.size (.cells #[.int .i64 y, .int .i64 e] 139))
    clear hv hB
    by_cases g : y ≤ year
    ·rw [if_pos g] at hF
     have HF := Lib.hid hF
     clear hF
     go_wp2_with fail
     go_roundw
     case rel => exact ⟨k + 1, e, true, by omega, by go_num, rfl, rfl, HF.out, HB2.out⟩
     case measure => simp [intOf]; omega
    ·rw [if_neg g] at hF
     have HF := Lib.hid hF
     clear hF
     go_wp2_with fail
     go_roundw
     case rel => exact ⟨k + 1, x, b, by omega, by go_num, rfl, rfl, HF.out, HB2.out⟩
     case measure => simp [intOf]; omega
   ·obtain rfl : k = vs.length := by omega
    rw [List.drop_length] at hF
    have HF := Lib.hid (show (x, b) = r from hF)
    clear hF
    go_wp2_with fail
    go_ret2
    have h := HF.out
    subst h
    exact ⟨rfl, hB⟩
 ·rw [Cs.dec_no hs]
  have hne : (Cs.varsE vs != 0) = true := by simp [hs]
  obtain ⟨s, hss⟩ : ∃ s, Cs.varsE vs = s := ⟨_, rfl⟩
  rw [hss] at hcv hne
  have HCV := Lib.hid hcv
  clear hcv hs hss
  go_enter Tryz.func189, Tryz.ntmps189
  go_wp2_with fail
  refine HCV.out.mono ?_
  rintro e w1 ⟨rfl, hb1⟩
  go_wp2_with fail
  go_ret2
  exact ⟨rfl, hb1⟩
theorem ends_any (a s l : Int) (w : World) (ha : -500 ≤ a ∧ a ≤ 500) (hs : 0 ≤ s ∧ s ≤ 200) (hl : 1 ≤ l ∧ l ≤ 100000) :
  Calls Tryz.prog 216 #[.agg #[.int .i64 a, .int .i64 s], .int .i64 l] w fun e w' => e = .returned (.tuple #[.int .i64 (l * (10000 + a - s)), .int .i64 (l * (10000 + a + s))]) ∧ Below w.heap.size w w' := by
 have hB := (Below.refl w.heap.size w).alloc (Nat.le_refl _) (.cells #[.int .i64 a, .int .i64 s] 38)
 have m1 : 0 ≤ l * (10000 + a - s) := Int.mul_nonneg (by omega) (by omega)
 have m2 : l * (10000 + a - s) ≤ 100000 * 10700 := Int.mul_le_mul (by omega) (by omega) (by omega) (by omega)
 have m3 : 0 ≤ l * (10000 + a + s) := Int.mul_nonneg (by omega) (by omega)
 have m4 : l * (10000 + a + s) ≤ 100000 * 10700 := Int.mul_le_mul (by omega) (by omega) (by omega) (by omega)
 have w1 : IntKind.i64.wrap (10000 + a) = 10000 + a := IntWalk.i64_in _ (by omega)
 have w2 : IntKind.i64.wrap (10000 + a - s) = 10000 + a - s := IntWalk.i64_in _ (by omega)
 have w3 : IntKind.i64.wrap (10000 + a + s) = 10000 + a + s := IntWalk.i64_in _ (by omega)
 have w4 : IntKind.i64.wrap (l * (10000 + a - s)) = l * (10000 + a - s) := IntWalk.i64_in _ (by omega)
 have w5 : IntKind.i64.wrap (l * (10000 + a + s)) = l * (10000 + a + s) := IntWalk.i64_in _ (by omega)
 have HB := Lib.hid hB
 clear hB
 go_enter Tryz.func216, Tryz.ntmps216
 go_wp2
 go_quiet (fail)
 go_wp2
 go_ret2
 exact ⟨rfl, below_drewN HB.out _⟩
end Go.Proofs.YtcbeefbefapicaaGreatDoor

namespace Go.Proofs.YtcbeefbefapicaaGreatDoor
open Go.RowKit
set_option maxRecDepth 100000
namespace Cs
theorem courseE_of {c : Co} (h : courseOk c = true) : courseE c = 0 := by unfold courseE; rw [if_pos h]
theorem courseE_not {c : Co} (h : courseOk c = false) : courseE c = 1 := by unfold courseE; rw [if_neg (by rw [h]; simp)]
theorem checkE_vars {vs : List (Int × Int)} {cs : List Co} (h : varsE vs ≠ 0) : checkE vs cs = varsE vs := by rw [checkE, if_pos h]
theorem checkE_course {vs : List (Int × Int)} {cs : List Co} (h : varsE vs = 0) {k : Nat} (hk : k < cs.length) (hc : courseOk cs[k] = false) : checkE vs cs = 1 := by
 have : cs.all courseOk = false := List.all_eq_false.2 ⟨_, List.getElem_mem hk, by rw [hc]; simp⟩
 rw [checkE, if_neg (by rw [h]; simp), this]
 simp
theorem checkE_year {vs : List (Int × Int)} {cs : List Co} (h : varsE vs = 0) (ha : ∀ j (hj : j < cs.length), courseOk cs[j] = true) {k : Nat} (hk : k < cs.length) (hc : (dec vs cs[k].y).2 = false) : checkE vs cs = 20 := by
 have h1 : cs.all courseOk = true := by
  rw [List.all_eq_true]
  intro c hm
  obtain ⟨j, hj, rfl⟩ := List.mem_iff_getElem.1 hm
  exact ha j hj
 have h2 : cs.all (fun c => (dec vs c.y).2) = false := List.all_eq_false.2 ⟨_, List.getElem_mem hk, by rw [hc]; simp⟩
 rw [checkE, if_neg (by rw [h]; simp), if_pos h1, if_neg (by rw [h2]; simp)]
theorem checkE_ok {vs : List (Int × Int)} {cs : List Co} (h : varsE vs = 0) (ha : ∀ j (hj : j < cs.length), courseOk cs[j] = true) (hb : ∀ j (hj : j < cs.length), (dec vs cs[j].y).2 = true) : checkE vs cs = 0 := by
 have h1 : cs.all courseOk = true := by
  rw [List.all_eq_true]
  intro c hm
  obtain ⟨j, hj, rfl⟩ := List.mem_iff_getElem.1 hm
  exact ha j hj
 have h2 : cs.all (fun c => (dec vs c.y).2) = true := by
  rw [List.all_eq_true]
  intro c hm
  obtain ⟨j, hj, rfl⟩ := List.mem_iff_getElem.1 hm
  exact hb j hj
 rw [checkE, if_neg (by rw [h]; simp), if_pos h1, if_pos h2]
end Cs
set_option maxHeartbeats 4000000 in
theorem check_any (A A2 : Option Addr) (c c2 : Nat) (vs : List (Int × Int)) (cs : List Cs.Co) (w : World) (hR : Rd w w.heap.size 2 A vs.length (vcells vs)) (hl : vs.length ≤ 1000000)
  (hC : Rd w w.heap.size 6 A2 cs.length (ccells cs)) (hlc : cs.length ≤ 1000000) :
  Calls Tryz.prog 171 #[.slice A vs.length c, .slice A2 cs.length c2] w fun e w' => e = .returned (.int .i64 (Cs.checkE vs cs)) ∧ Below w.heap.size w w' := by
 have hcv := checkVariations_any A c vs w hR hl
 by_cases hs : Cs.varsE vs = 0
 ·rw [hs] at hcv
  obtain ⟨r, hr⟩ : ∃ r, Cs.checkE vs cs = r := ⟨_, rfl⟩
  rw [hr]
  have h1 : ∀ k (hk : k < cs.length), Cs.courseOk cs[k] = false → 1 = r := fun k hk hc => by rw [← hr, Cs.checkE_course hs hk hc]
  have h2 : (∀ j (hj : j < cs.length), Cs.courseOk cs[j] = true) → ∀ k (hk : k < cs.length), (Cs.dec vs cs[k].y).2 = false → 20 = r := fun ha k hk hc => by rw [← hr, Cs.checkE_year hs ha hk hc]
  have h3 : (∀ j (hj : j < cs.length), Cs.courseOk cs[j] = true) → (∀ j (hj : j < cs.length), (Cs.dec vs cs[j].y).2 = true) → 0 = r := fun ha hb => by rw [← hr, Cs.checkE_ok hs ha hb]
  have H1 := Lib.hid h1
  have H2 := Lib.hid h2
  have H3 := Lib.hid h3
  have HCV := Lib.hid hcv
  have HCC := Lib.hid fun co w => checkCourse_any co w
  have HDE := Lib.hid fun y w h => declination_any A c vs y w h hl
  have HRR := Lib.hid hR
  clear h1 h2 h3 hcv hr hs hR
  go_enter Tryz.func171, Tryz.ntmps171
  go_wp2_with fail
  refine HCV.out.mono ?_
  rintro e w1 ⟨rfl, hb1⟩
  go_wp2_with fail
  go_loopw [20] (fun I wr => ∃ k : Nat, k ≤ cs.length ∧ I = .int .i64 k ∧ (∀ j (hj : j < cs.length), j < k → Cs.courseOk cs[j] = true) ∧ Below w.heap.size w wr) (fun I _ => cs.length - (intOf I).toNat)
  case atStart => exact ⟨0, Nat.zero_le _, rfl, fun j hj h => absurd h (by omega), hb1⟩
  case round =>
   clear hb1 HCV
   obtain ⟨k, hk, rfl, hF, hB⟩ := hrel
   by_cases hlt : k < cs.length
   ·obtain ⟨bv, ov, rfl, hbv, e0, e1, e2, e3, e4, e5⟩ := (hC.below hB (Nat.le_refl _)).course hlt
    obtain ⟨co, hv⟩ : ∃ v, cs[k] = v := ⟨_, rfl⟩
    rw [hv] at e0 e1 e2 e3 e4 e5
    have hcc := HCC.out co
    have htv : cval co = .agg #[.int .i64 co.b, .int .i64 co.n, .int .i64 co.l, .int .i64 co.y, .int .i64 co.w, .int .i64 co.s] := rfl
    rw [htv] at hcc
    have hB2 := hB.alloc hB.size (.cells #[.int .i64 co.b, .int .i64 co.n, .int .i64 co.l, .int .i64 co.y, .int .i64 co.w, .int .i64 co.s] 40)
    have h1k := H1.out k hlt
    rw [hv] at h1k
    rcases hok : Cs.courseOk co with _ | _
    ·have h1 := h1k hok
     rw [Cs.courseE_not hok] at hcc
     have HB2 := Lib.hid hB2
     have HCK := Lib.hid hcc
     have HX := Lib.hid h1
     clear hv hB hB2 hcc htv hF h1k h1 hok
     go_wp2_with fail
     refine (HCK.out _).mono ?_
     rintro e w2 ⟨rfl, hb2⟩
     go_wp2_with fail
     go_ret
     have h := HX.out
     subst h
     exact ⟨rfl, HB2.out.trans (hb2.mono HB2.out.size)⟩
    ·rw [Cs.courseE_of hok] at hcc
     have HB2 := Lib.hid hB2
     have HCK := Lib.hid hcc
     have hF2 : ∀ j (hj : j < cs.length), j < k + 1 → Cs.courseOk cs[j] = true := fun j hj h => by
      by_cases hjk : j = k
      ·subst hjk; rw [hv]; exact hok
      ·exact hF j hj (by omega)
     have HF2 := Lib.hid hF2
     clear hv hB hB2 hcc htv hF h1k hok hF2
     go_wp2_with fail
     refine (HCK.out _).mono ?_
     rintro e w2 ⟨rfl, hb2⟩
     go_wp2_with fail
     go_roundw
     case rel => exact ⟨k + 1, by omega, by go_num, HF2.out, HB2.out.trans (hb2.mono HB2.out.size)⟩
     case measure => simp [intOf]; omega
   ·obtain rfl : k = cs.length := by omega
    have HF := Lib.hid (show ∀ j (hj : j < cs.length), Cs.courseOk cs[j] = true from fun j hj => hF j hj hj)
    have HBB := Lib.hid hB
    clear hF hB hlt hk
    go_wp2_with fail
    go_loopw [32] (fun I wr => ∃ k : Nat, k ≤ cs.length ∧ I = .int .i64 k ∧ (∀ j (hj : j < cs.length), j < k → (Cs.dec vs cs[j].y).2 = true) ∧ Below w.heap.size w wr) (fun I _ => cs.length - (intOf I).toNat)
    case atStart => exact ⟨0, Nat.zero_le _, rfl, fun j hj h => absurd h (by omega), HBB.out⟩
    case round =>
     obtain ⟨k, hk, rfl, hF2, hB⟩ := hrel
     by_cases hlt : k < cs.length
     ·obtain ⟨bv, ov, rfl, hbv, e0, e1, e2, e3, e4, e5⟩ := (hC.below hB (Nat.le_refl _)).course hlt
      have hd : ∀ q : Bool, (Cs.dec vs cs[k].y).2 = q → ∃ x, Cs.dec vs cs[k].y = (x, q) := fun q h => ⟨_, Prod.ext rfl h⟩
      have h2k := H2.out HF.out k hlt
      have hn : ((Cs.dec vs cs[k].y).2 = true) → ∀ j (hj : j < cs.length), j < k + 1 → (Cs.dec vs cs[j].y).2 = true := fun h j hj hlt => by
       by_cases hjk : j = k
       ·subst hjk; exact h
       ·exact hF2 j hj (by omega)
      have hde := HDE.out cs[k].y
      obtain ⟨co, hv⟩ : ∃ v, cs[k] = v := ⟨_, rfl⟩
      rw [hv] at e0 e1 e2 e3 e4 e5 hd h2k hn hde
      have hB2 := hB.alloc hB.size (.cells #[.int .i64 co.b, .int .i64 co.n, .int .i64 co.l, .int .i64 co.y, .int .i64 co.w, .int .i64 co.s] 40)
      have hR2 := (HRR.out.below hB2 (Nat.le_refl _)).more hB2.size
      rcases hok : (Cs.dec vs co.y).2 with _ | _
      ·obtain ⟨x, hx⟩ := hd _ hok
       rw [hx] at hde
       have HDK := Lib.hid (hde _ hR2)
       have HX := Lib.hid (h2k hok)
       have HB2 := Lib.hid hB2
       clear hv hB hB2 hde hd h2k hn hok hx hF2 hR2
       go_wp2_with fail
       refine HDK.out.mono ?_
       rintro e w2 ⟨rfl, hb2⟩
       go_wp2_with fail
       go_ret
       have h := HX.out
       subst h
       exact ⟨rfl, HB2.out.trans (hb2.mono HB2.out.size)⟩
      ·obtain ⟨x, hx⟩ := hd _ hok
       rw [hx] at hde
       have HDK := Lib.hid (hde _ hR2)
       have HN := Lib.hid (hn hok)
       have HB2 := Lib.hid hB2
       clear hv hB hB2 hde hd h2k hn hok hx hF2 hR2
       go_wp2_with fail
       refine HDK.out.mono ?_
       rintro e w2 ⟨rfl, hb2⟩
       go_wp2_with fail
       go_roundw
       case rel => exact ⟨k + 1, by omega, by go_num, HN.out, HB2.out.trans (hb2.mono HB2.out.size)⟩
       case measure => simp [intOf]; omega
     ·obtain rfl : k = cs.length := by omega
      have HX := Lib.hid (H3.out HF.out fun j hj => hF2 j hj hj)
      have HB3 := Lib.hid hB
      clear hF2 hB hlt hk
      go_wp2_with fail
      go_ret
      have h := HX.out
      subst h
      exact ⟨rfl, HB3.out⟩
 ·rw [Cs.checkE_vars hs]
  have hne : (Cs.varsE vs != 0) = true := by simp [hs]
  obtain ⟨s, hss⟩ : ∃ s, Cs.varsE vs = s := ⟨_, rfl⟩
  rw [hss] at hcv hne ⊢
  have HCV := Lib.hid hcv
  clear hcv hs hss hR hC
  go_enter Tryz.func171, Tryz.ntmps171
  go_wp2_with fail
  refine HCV.out.mono ?_
  rintro e w1 ⟨rfl, hb1⟩
  go_wp2_with fail
  go_ret
  exact ⟨rfl, hb1⟩
end Go.Proofs.YtcbeefbefapicaaGreatDoor

namespace Go.Proofs.YtcbeefbefapicaaGreatDoor
open Go.RowKit
set_option maxRecDepth 100000
def aval (a : Cs.Aim) : Value := .agg #[.int .i64 a.low, .int .i64 a.high, .int .i64 a.near, .int .i64 a.far]
set_option maxHeartbeats 2000000 in
theorem aimOf_any (A : Option Addr) (c : Nat) (vs : List (Int × Int)) (co : Cs.Co) (w : World) (hR : Rd w w.heap.size 2 A vs.length (vcells vs)) (hl : vs.length ≤ 1000000) (hco : Cs.courseOk co = true) :
  Calls Tryz.prog 190 #[.slice A vs.length c, cval co] w fun e w' => e = .returned (aval (Cs.aimOf vs co)) ∧ Below w.heap.size w w' := by
 obtain ⟨⟨b0, b1⟩, ⟨n0, n1⟩, hl1, hy, hw, hs⟩ := (Cs.courseOk_iff co).1 hco
 obtain ⟨d0, d1⟩ := Cs.dec_range vs co.y
 obtain ⟨m0, m1⟩ := Cs.mid_range vs co
 have hmid : Cs.midF vs co = Cs.norm (co.b + (Cs.dec vs co.y).1 + 90) - 90 := rfl
 have hres : Cs.aimOf vs co = ⟨Cs.midF vs co - co.n, Cs.midF vs co + co.n, co.l * (10000 + co.w - co.s), co.l * (10000 + co.w + co.s)⟩ := rfl
 have hdc := fun w h => declination_any A c vs co.y w h hl
 have hen := fun w => ends_any co.w co.s co.l w hw hs hl1
 obtain ⟨b, n, l, y, a, s⟩ := co
 dsimp only at b0 b1 n0 n1 hl1 hy hw hs d0 d1 hmid hres hdc hen
 rw [hres]
 obtain ⟨⟨de, dk⟩, hde⟩ : ∃ q, Cs.dec vs y = q := ⟨_, rfl⟩
 simp only [hde] at d0 d1 hmid hdc
 have hnm := fun w => norm_any (b + de + 90) w
 obtain ⟨q0, q1⟩ := Cs.norm_range (b + de + 90)
 obtain ⟨nm, hnn⟩ : ∃ q, Cs.norm (b + de + 90) = q := ⟨_, rfl⟩
 simp only [hnn] at hmid hnm q0 q1
 rw [hmid] at m0 m1 ⊢
 obtain ⟨ne, hne⟩ : ∃ q, l * (10000 + a - s) = q := ⟨_, rfl⟩
 obtain ⟨fa, hfa⟩ : ∃ q, l * (10000 + a + s) = q := ⟨_, rfl⟩
 simp only [hne, hfa] at hen ⊢
 have hB0 : Below w.heap.size w ((w.alloc (.cells #[.int .i64 b, .int .i64 n, .int .i64 l, .int .i64 y, .int .i64 a, .int .i64 s] 40)).alloc (.cells #[.int .i64 0, .int .i64 0, .int .i64 0, .int .i64 0] 213)) := ((Below.refl _ _).alloc (Nat.le_refl _) _).alloc (by simp) _
 have kC := (Bk.new w 40 #[.int .i64 b, .int .i64 n, .int .i64 l, .int .i64 y, .int .i64 a, .int .i64 s]).alloc (.cells #[.int .i64 0, .int .i64 0, .int .i64 0, .int .i64 0] 213)
 have kA := Bk.new (w.alloc (.cells #[.int .i64 b, .int .i64 n, .int .i64 l, .int .i64 y, .int .i64 a, .int .i64 s] 40)) 213 #[.int .i64 0, .int .i64 0, .int .i64 0, .int .i64 0]
 rw [World.size_alloc] at kA
 have hR1 := (hR.below hB0 (Nat.le_refl _)).more hB0.size
 have HDC := Lib.hid hdc
 have HEN := Lib.hid hen
 have HNM := Lib.hid hnm
 clear hdc hen hnm hde hnn hne hfa hmid hres hco hy hl1 hw hs
 show Calls Tryz.prog 190 #[.slice A vs.length c, .agg #[.int .i64 b, .int .i64 n, .int .i64 l, .int .i64 y, .int .i64 a, .int .i64 s]] w _
 go_enter Tryz.func190, Tryz.ntmps190
 go_wp2_with fail
 refine (HDC.out _ hR1).mono ?_
 rintro e w1 ⟨rfl, hb1⟩
 have kC1 := kC.below hb1 kC.lt
 have kA1 := kA.below hb1 kA.lt
 have hB1 := hB0.trans (hb1.mono hB0.size)
 clear kC kA hB0 hR1 hb1
 have c0 := (kC1.cell 0).trans rfl
 have c1 := (kC1.cell 1).trans rfl
 have c2 := (kC1.cell 2).trans rfl
 have c4 := (kC1.cell 4).trans rfl
 have c5 := (kC1.cell 5).trans rfl
 have lc := kC1.lt
 go_wp2_with (go_at_call 79; refine (HNM.out _).mono ?_; rintro e w' ⟨rfl, rfl⟩)
 refine (HEN.out _).mono ?_
 rintro e w2 ⟨rfl, hb2⟩
 have kC2 := kC1.below hb2 kC1.lt
 have kA2 := kA1.below hb2 kA1.lt
 have hB2 := hB1.trans (hb2.mono hB1.size)
 clear c0 c1 c2 c4 c5 lc kC1 kA1 hB1 hb2
 have c1 := (kC2.cell 1).trans rfl
 have a0 := (kA2.cell 0).trans rfl
 have a1 := (kA2.cell 1).trans rfl
 have a2 := (kA2.cell 2).trans rfl
 have a3 := (kA2.cell 3).trans rfl
 have f0 := kA2.frozen 0
 have f1 := kA2.frozen 1
 have f2 := kA2.frozen 2
 have f3 := kA2.frozen 3
 have lc := kC2.lt
 have la := kA2.lt
 have hk := (((kA2.set 0 (.int .i64 (nm - 90 - n))).set 1 (.int .i64 (nm - 90 + n))).set 2 (.int .i64 ne)).set 3 (.int .i64 fa)
 have hB3 := (((hB2.setCell (p := ⟨w.heap.size + 1, 0, none⟩) (by simp) (.int .i64 (nm - 90 - n))).setCell (p := ⟨w.heap.size + 1, 1, none⟩) (by simp) (.int .i64 (nm - 90 + n))).setCell (p := ⟨w.heap.size + 1, 2, none⟩) (by simp) (.int .i64 ne)).setCell (p := ⟨w.heap.size + 1, 3, none⟩) (by simp) (.int .i64 fa)
 have REL := Lib.hid (And.intro hk hB3)
 clear hk hB3 kA2 kC2
 go_wp2_with fail
 exact bodyPost_ret (v := .agg #[.int .i64 (nm - 90 - n), .int .i64 (nm - 90 + n), .int .i64 ne, .int .i64 fa]) (results_cell_row rfl _ _ (w.heap.size + 1) 213 _ (0, 0) _ rfl REL.out.1 Tryz.underlying213 rfl (by kernel_rfl)) rfl ⟨rfl, REL.out.2⟩
set_option maxHeartbeats 2000000 in
theorem aimEast_any (A : Option Addr) (c : Nat) (vs : List (Int × Int)) (co : Cs.Co) (dx : Int) (w : World) (hR : Rd w w.heap.size 2 A vs.length (vcells vs)) (hl : vs.length ≤ 1000000) (hco : Cs.courseOk co = true) :
  Calls Tryz.prog 172 #[.slice A vs.length c, cval co, .int .i64 dx] w fun e w' => e = .returned (aval (Cs.aimEast vs co dx)) ∧ Below w.heap.size w w' := by
 obtain ⟨⟨b0, b1⟩, ⟨n0, n1⟩, hl1, hy, hw, hs⟩ := (Cs.courseOk_iff co).1 hco
 have hB0 : Below w.heap.size w ((w.alloc (.cells #[.int .i64 co.b, .int .i64 co.n, .int .i64 co.l, .int .i64 co.y, .int .i64 co.w, .int .i64 co.s] 40)).alloc (.cells #[.int .i64 0, .int .i64 0, .int .i64 0, .int .i64 0] 213)) := ((Below.refl _ _).alloc (Nat.le_refl _) _).alloc (by simp) _
 have kC := (Bk.new w 40 #[.int .i64 co.b, .int .i64 co.n, .int .i64 co.l, .int .i64 co.y, .int .i64 co.w, .int .i64 co.s]).alloc (.cells #[.int .i64 0, .int .i64 0, .int .i64 0, .int .i64 0] 213)
 have kA := Bk.new (w.alloc (.cells #[.int .i64 co.b, .int .i64 co.n, .int .i64 co.l, .int .i64 co.y, .int .i64 co.w, .int .i64 co.s] 40)) 213 #[.int .i64 0, .int .i64 0, .int .i64 0, .int .i64 0]
 rw [World.size_alloc] at kA
 have hfin : ∀ w1, Bk w1 (w.heap.size + 1) 213 #[.int .i64 0, .int .i64 0, .int .i64 0, .int .i64 0] → Below w.heap.size w w1 → ∀ am : Cs.Aim,
   Bk ((((w1.setCell ⟨w.heap.size + 1, 0, none⟩ (.int .i64 am.low)).setCell ⟨w.heap.size + 1, 1, none⟩ (.int .i64 am.high)).setCell ⟨w.heap.size + 1, 2, none⟩ (.int .i64 am.near)).setCell ⟨w.heap.size + 1, 3, none⟩ (.int .i64 am.far)) (w.heap.size + 1) 213 #[.int .i64 am.low, .int .i64 am.high, .int .i64 am.near, .int .i64 am.far] ∧
   Below w.heap.size w ((((w1.setCell ⟨w.heap.size + 1, 0, none⟩ (.int .i64 am.low)).setCell ⟨w.heap.size + 1, 1, none⟩ (.int .i64 am.high)).setCell ⟨w.heap.size + 1, 2, none⟩ (.int .i64 am.near)).setCell ⟨w.heap.size + 1, 3, none⟩ (.int .i64 am.far)) := fun w1 h hB am =>
  ⟨(((h.set 0 _).set 1 _).set 2 _).set 3 _, (((hB.setCell (p := ⟨w.heap.size + 1, 0, none⟩) (by simp) _).setCell (p := ⟨w.heap.size + 1, 1, none⟩) (by simp) _).setCell (p := ⟨w.heap.size + 1, 2, none⟩) (by simp) _).setCell (p := ⟨w.heap.size + 1, 3, none⟩) (by simp) _⟩
 have HFIN := Lib.hid hfin
 by_cases hd : dx < 0
 ·have hres : Cs.aimEast vs co dx = Cs.aimOf vs (Cs.turn co) := by rw [Cs.aimEast, if_pos hd]
  rw [hres]
  have hao := fun w h => aimOf_any A c vs (Cs.turn co) w h hl (Cs.turn_ok hco)
  obtain ⟨am, ham⟩ : ∃ q, Cs.aimOf vs (Cs.turn co) = q := ⟨_, rfl⟩
  simp only [ham] at hao ⊢
  have hnm := fun w => norm_any (co.b + 180) w
  have htv : cval (Cs.turn co) = .agg #[.int .i64 (Cs.norm (co.b + 180)), .int .i64 co.n, .int .i64 co.l, .int .i64 co.y, .int .i64 co.w, .int .i64 co.s] := rfl
  rw [htv] at hao
  obtain ⟨b, n, l, y, a, s⟩ := co
  dsimp only at *
  obtain ⟨nb, hnb⟩ : ∃ q, Cs.norm (b + 180) = q := ⟨_, rfl⟩
  simp only [hnb] at hao hnm
  have HAO := Lib.hid hao
  have HNM := Lib.hid hnm
  have c0 := (kC.cell 0).trans rfl
  have c1 := (kC.cell 1).trans rfl
  have c2 := (kC.cell 2).trans rfl
  have c3 := (kC.cell 3).trans rfl
  have c4 := (kC.cell 4).trans rfl
  have c5 := (kC.cell 5).trans rfl
  have f0 := kC.frozen 0
  have lc := kC.lt
  have hB2 : Below w.heap.size w ((w.alloc (.cells #[.int .i64 nb, .int .i64 n, .int .i64 l, .int .i64 y, .int .i64 a, .int .i64 s] 40)).alloc (.cells #[.int .i64 0, .int .i64 0, .int .i64 0, .int .i64 0] 213)) := ((Below.refl _ _).alloc (Nat.le_refl _) _).alloc (by simp) _
  have kA2 := Bk.new (w.alloc (.cells #[.int .i64 nb, .int .i64 n, .int .i64 l, .int .i64 y, .int .i64 a, .int .i64 s] 40)) 213 #[.int .i64 0, .int .i64 0, .int .i64 0, .int .i64 0]
  rw [World.size_alloc] at kA2
  have hR2 := (hR.below hB2 (Nat.le_refl _)).more hB2.size
  have REL := Lib.hid (And.intro hR2 (And.intro kA2 hB2))
  clear hao hnm hnb ham hres htv hco hfin kC kA hB0 hR hR2 kA2 hB2 hy hl1 hw hs
  show Calls Tryz.prog 172 #[.slice A vs.length c, .agg #[.int .i64 b, .int .i64 n, .int .i64 l, .int .i64 y, .int .i64 a, .int .i64 s], .int .i64 dx] w _
  go_enter Tryz.func172, Tryz.ntmps172
  go_wp2_with (go_at_call 79; refine (HNM.out _).mono ?_; rintro e w' ⟨rfl, rfl⟩)
  refine (HAO.out _ REL.out.1).mono ?_
  rintro e w1 ⟨rfl, hb1⟩
  have kA1 := REL.out.2.1.below hb1 REL.out.2.1.lt
  have hB1 := REL.out.2.2.trans (hb1.mono REL.out.2.2.size)
  have hR3 := HFIN.out w1 kA1 hB1 am
  have f0 := kA1.frozen 0
  have f1 := kA1.frozen 1
  have f2 := kA1.frozen 2
  have f3 := kA1.frozen 3
  have a0 := (kA1.cell 0).trans rfl
  have a1 := (kA1.cell 1).trans rfl
  have a2 := (kA1.cell 2).trans rfl
  have a3 := (kA1.cell 3).trans rfl
  have R3 := Lib.hid hR3
  obtain ⟨al, ah, an, af⟩ := am
  unfold aval
  dsimp only at *
  clear hR3 kA1 hB1 c0 c1 c2 c3 c4 c5
  go_wp2_with fail
  exact bodyPost_ret (v := .agg #[.int .i64 al, .int .i64 ah, .int .i64 an, .int .i64 af]) (results_cell_row rfl _ _ (w.heap.size + 1) 213 _ (0, 0) _ rfl R3.out.1 Tryz.underlying213 rfl (by kernel_rfl)) rfl ⟨rfl, R3.out.2⟩
 ·have hres : Cs.aimEast vs co dx = Cs.aimOf vs co := by rw [Cs.aimEast, if_neg hd]
  rw [hres]
  have hao := fun w h => aimOf_any A c vs co w h hl hco
  obtain ⟨am, ham⟩ : ∃ q, Cs.aimOf vs co = q := ⟨_, rfl⟩
  simp only [ham] at hao ⊢
  have htv : cval co = .agg #[.int .i64 co.b, .int .i64 co.n, .int .i64 co.l, .int .i64 co.y, .int .i64 co.w, .int .i64 co.s] := rfl
  rw [htv] at hao
  obtain ⟨b, n, l, y, a, s⟩ := co
  dsimp only at *
  have HAO := Lib.hid hao
  have c0 := (kC.cell 0).trans rfl
  have c1 := (kC.cell 1).trans rfl
  have c2 := (kC.cell 2).trans rfl
  have c3 := (kC.cell 3).trans rfl
  have c4 := (kC.cell 4).trans rfl
  have c5 := (kC.cell 5).trans rfl
  have lc := kC.lt
  have hR2 := (hR.below hB0 (Nat.le_refl _)).more hB0.size
  have REL := Lib.hid (And.intro hR2 (And.intro kA hB0))
  clear hao ham hres htv hco hfin kC kA hB0 hR hR2 hy hl1 hw hs
  show Calls Tryz.prog 172 #[.slice A vs.length c, .agg #[.int .i64 b, .int .i64 n, .int .i64 l, .int .i64 y, .int .i64 a, .int .i64 s], .int .i64 dx] w _
  go_enter Tryz.func172, Tryz.ntmps172
  go_wp2_with fail
  refine (HAO.out _ REL.out.1).mono ?_
  rintro e w1 ⟨rfl, hb1⟩
  have kA1 := REL.out.2.1.below hb1 REL.out.2.1.lt
  have hB1 := REL.out.2.2.trans (hb1.mono REL.out.2.2.size)
  have hR3 := HFIN.out w1 kA1 hB1 am
  have f0 := kA1.frozen 0
  have f1 := kA1.frozen 1
  have f2 := kA1.frozen 2
  have f3 := kA1.frozen 3
  have a0 := (kA1.cell 0).trans rfl
  have a1 := (kA1.cell 1).trans rfl
  have a2 := (kA1.cell 2).trans rfl
  have a3 := (kA1.cell 3).trans rfl
  have R3 := Lib.hid hR3
  obtain ⟨al, ah, an, af⟩ := am
  unfold aval
  dsimp only at *
  clear hR3 kA1 hB1 c0 c1 c2 c3 c4 c5
  go_wp2_with fail
  exact bodyPost_ret (v := .agg #[.int .i64 al, .int .i64 ah, .int .i64 an, .int .i64 af]) (results_cell_row rfl _ _ (w.heap.size + 1) 213 _ (0, 0) _ rfl R3.out.1 Tryz.underlying213 rfl (by kernel_rfl)) rfl ⟨rfl, R3.out.2⟩
theorem northerly_any (a : Cs.Aim) (w : World) :
  Calls Tryz.prog 197 #[aval a] w fun e w' => e = .returned (.bool (decide (a.high ≤ 90))) ∧ Below w.heap.size w w' := by
 obtain ⟨al, ah, an, af⟩ := a
 have HB := Lib.hid ((Below.refl w.heap.size w).alloc (Nat.le_refl _) (.cells #[.int .i64 al, .int .i64 ah, .int .i64 an, .int .i64 af] 213))
 show Calls Tryz.prog 197 #[.agg #[.int .i64 al, .int .i64 ah, .int .i64 an, .int .i64 af]] w _
 go_enter Tryz.func197, Tryz.ntmps197
 go_wp2
 go_ret
 exact ⟨rfl, HB.out⟩
theorem southerly_any (a : Cs.Aim) (w : World) :
  Calls Tryz.prog 198 #[aval a] w fun e w' => e = .returned (.bool (decide (90 ≤ a.low))) ∧ Below w.heap.size w w' := by
 obtain ⟨al, ah, an, af⟩ := a
 have HB := Lib.hid ((Below.refl w.heap.size w).alloc (Nat.le_refl _) (.cells #[.int .i64 al, .int .i64 ah, .int .i64 an, .int .i64 af] 213))
 show Calls Tryz.prog 198 #[.agg #[.int .i64 al, .int .i64 ah, .int .i64 an, .int .i64 af]] w _
 go_enter Tryz.func198, Tryz.ntmps198
 go_wp2
 go_ret
 exact ⟨rfl, HB.out⟩
end Go.Proofs.YtcbeefbefapicaaGreatDoor

namespace Go.Proofs.YtcbeefbefapicaaGreatDoor
open Go.RowKit
set_option maxRecDepth 100000
theorem Sn.drewN {w : World} (h : Sn w) (n : Nat) : Sn (w.drewN n) := h.step (below_drewN (Below.refl _ _) n)
theorem Sn.drew {w : World} (h : Sn w) : Sn w.drew := h.step (Below.refl _ _).drew
theorem mul_in {x y : Int} (hx : -100000 ≤ x ∧ x ≤ 100000) (hy : -10000 ≤ y ∧ y ≤ 10000) : -1000000000 ≤ x * y ∧ x * y ≤ 1000000000 := by
 have h1 : (x * y).natAbs ≤ 100000 * 10000 := by
  rw [Int.natAbs_mul]
  exact Nat.mul_le_mul (by omega) (by omega)
 omega
end Go.Proofs.YtcbeefbefapicaaGreatDoor

namespace Go.Proofs.YtcbeefbefapicaaGreatDoor
open Go.RowKit
set_option maxRecDepth 100000
set_option maxHeartbeats 2000000 in
theorem checkEast_any (A A2 : Option Addr) (c c2 : Nat) (vs : List (Int × Int)) (cs : List Cs.Co) (dx : Int) (w : World) (hR : Rd w w.heap.size 2 A vs.length (vcells vs)) (hl : vs.length ≤ 1000000)
  (hC : Rd w w.heap.size 6 A2 cs.length (ccells cs)) (hlc : cs.length ≤ 1000000) :
  Calls Tryz.prog 158 #[.slice A vs.length c, .int .i64 dx, .slice A2 cs.length c2] w fun e w' => e = .returned (.int .i64 (Cs.eastE vs cs dx)) ∧ Below w.heap.size w w' := by
 have hck := check_any A A2 c c2 vs cs w hR hl hC hlc
 clear hR hC
 by_cases hs : Cs.checkE vs cs = 0
 ·have he : Cs.eastE vs cs dx = if dx = 0 ∨ dx < -100000 ∨ 100000 < dx then 1 else 0 := by rw [Cs.eastE, if_neg (by rw [hs]; simp)]
  rw [he]
  rw [hs] at hck
  have HCK := Lib.hid hck
  clear hck hs he
  by_cases h0 : dx = 0
  ·rw [if_pos (Or.inl h0)]
   go_enter Tryz.func158, Tryz.ntmps158
   go_wp2_with fail
   refine HCK.out.mono ?_
   rintro e w1 ⟨rfl, hb1⟩
   go_wp2_with fail
   go_ret
   exact ⟨rfl, hb1⟩
  ·have hd0 : (dx == 0) = false := by simp [h0]
   by_cases h1 : -100000 ≤ dx ∧ dx ≤ 100000
   ·rw [if_neg (by omega)]
    have d1 : decide (-100000 ≤ dx ∧ dx ≤ 100000) = true := decide_eq_true h1
    clear h1
    go_enter Tryz.func158, Tryz.ntmps158
    go_wp2_with fail
    refine HCK.out.mono ?_
    rintro e w1 ⟨rfl, hb1⟩
    go_wp2_with (go_at_call 77; refine (between_any _ _ _ _).mono ?_; rw [d1]; rintro e w' ⟨rfl, rfl⟩)
    go_ret
    exact ⟨rfl, hb1⟩
   ·rw [if_pos (by omega)]
    have d1 : decide (-100000 ≤ dx ∧ dx ≤ 100000) = false := decide_eq_false h1
    clear h1
    go_enter Tryz.func158, Tryz.ntmps158
    go_wp2_with fail
    refine HCK.out.mono ?_
    rintro e w1 ⟨rfl, hb1⟩
    go_wp2_with (go_at_call 77; refine (between_any _ _ _ _).mono ?_; rw [d1]; rintro e w' ⟨rfl, rfl⟩)
    go_ret
    exact ⟨rfl, hb1⟩
 ·have he : Cs.eastE vs cs dx = Cs.checkE vs cs := by rw [Cs.eastE, if_pos hs]
  rw [he]
  have hne : (Cs.checkE vs cs != 0) = true := by simp [hs]
  obtain ⟨s, hss⟩ : ∃ s, Cs.checkE vs cs = s := ⟨_, rfl⟩
  rw [hss] at hck hne ⊢
  have HCK := Lib.hid hck
  clear hck hs hss he
  go_enter Tryz.func158, Tryz.ntmps158
  go_wp2_with fail
  refine HCK.out.mono ?_
  rintro e w1 ⟨rfl, hb1⟩
  go_wp2_with fail
  go_ret
  exact ⟨rfl, hb1⟩
theorem ccells_one (co : Cs.Co) : ccells [co] = ccell co := by simp [ccells]
theorem rd_one (w : World) (t : TypeId) (co : Cs.Co) : Rd (w.alloc (.cells #[.int .i64 co.b, .int .i64 co.n, .int .i64 co.l, .int .i64 co.y, .int .i64 co.w, .int .i64 co.s] t)) (w.heap.size + 1) 6 (some ⟨w.heap.size, 0, none⟩) [co].length (ccells [co]) := by
 rw [ccells_one]
 refine ⟨rfl, fun _ => ⟨w.heap.size, 0, rfl, by omega, fun j hj => ?_⟩⟩
 have := (Bk.new w t #[.int .i64 co.b, .int .i64 co.n, .int .i64 co.l, .int .i64 co.y, .int .i64 co.w, .int .i64 co.s]).cell (0 + j)
 rw [this]
 simp only [List.length_singleton] at hj
 rcases (by omega : j = 0 ∨ j = 1 ∨ j = 2 ∨ j = 3 ∨ j = 4 ∨ j = 5) with rfl | rfl | rfl | rfl | rfl | rfl <;> rfl
theorem Cs.eastE_zero {vs : List (Int × Int)} {cs : List Cs.Co} {dx : Int} (h : Cs.eastE vs cs dx = 0) : Cs.checkE vs cs = 0 ∧ dx ≠ 0 ∧ -100000 ≤ dx ∧ dx ≤ 100000 := by
 unfold Cs.eastE at h
 split at h
 ·rename_i hn; exact absurd h hn
 ·rename_i hn
  split at h
  ·cases h
  ·omega
end Go.Proofs.YtcbeefbefapicaaGreatDoor
