/-
  What the claim needs: contracts.
-/
import Derived.Laws.EntriesVeiled
import Derived.Test.YtccikcpcfdjobaaGreatDoorBs02
set_option linter.unusedVariables false
set_option linter.unusedSimpArgs false
set_option maxHeartbeats 8000000
set_option maxRecDepth 100000
namespace Go.Proofs.YtccikcpcfdjobaaGreatDoor
section
open Go.RowKit
theorem y05 {C : Nat} {w w' : World} (h : Below C w w') (n : Nat) : Below C w (w'.drewN n) := ⟨h.os, h.tape, h.output, h.size, h.block⟩
namespace Cs
theorem y7r {b : Int} {vs : List (Int × Int)} {k : Nat} (hk : k < vs.length) (h : okV 0 vs = okV b (vs.drop k)) :
  (b + 1 <= vs[k].1 /\ vs[k].1 <= 3000 /\ -60 <= vs[k].2 /\ vs[k].2 <= 60 -> okV 0 vs = okV vs[k].1 (vs.drop (k + 1))) /\
   (¬ (b + 1 <= vs[k].1 /\ vs[k].1 <= 3000 /\ -60 <= vs[k].2 /\ vs[k].2 <= 60) -> okV 0 vs = false) := by
 rw [List.drop_eq_getElem_cons hk] at h;obtain ⟨⟨y, e⟩, hv⟩ : ∃ v, vs[k] = v := ⟨_, rfl⟩;rw [hv] at h ⊢;dsimp only;rw [h, okV];constructor
 ·intro hh;rw [decide_eq_true hh, Bool.true_and]
 intro hh;rw [decide_eq_false hh, Bool.false_and]
theorem y4d {vs : List (Int × Int)} (h : 40 < vs.length) : varsE vs = 2 := by rw [varsE, if_pos h]
theorem y84 {vs : List (Int × Int)} (h : ¬ 40 < vs.length) (hk : okV 0 vs = true) : varsE vs = 0 := by rw [varsE, if_neg h, if_pos hk]
theorem y83 {vs : List (Int × Int)} (h : ¬ 40 < vs.length) (hk : okV 0 vs = false) : varsE vs = 1 := by rw [varsE, if_neg h, if_neg (by rw [hk]; simp)]
def prev (vs : List (Int × Int)) : Nat -> Int
 | 0 => 0
 | k + 1 => (vs[k]?.getD (0, 0)).1
theorem yAP {vs : List (Int × Int)} {k : Nat} (hk : k < vs.length) : prev vs (k + 1) = vs[k].1 := by simp [prev, hk]
end Cs
theorem y0k (A : Option Addr) (c : Nat) (vs : List (Int × Int)) (w : World) (hR : Rd w w.heap.size 2 A vs.length (vcells vs)) (hl : vs.length <= 1000000) :
  Calls Tryz.prog 73 #[.slice A vs.length c] w fun e w' => e = .returned (.int .i64 (Cs.varsE vs)) /\ Below w.heap.size w w' := by
 by_cases h40 : 40 < vs.length
 ·rw [Cs.y4d h40];go_enter Tryz.func73, Tryz.ntmps73
  go_wp2
  go_ret;exact ⟨rfl, Below.refl _ _⟩
 have hok := fun h => Cs.y84 h40 h;have hno := fun h => Cs.y83 h40 h;obtain ⟨r, hr⟩ := zE (Cs.varsE vs);rw [hr] at hok hno ⊢;have h40' : vs.length <= 40 := by omega
 have HOK := jQ hok;have HNO := jQ hno;have h41 : (vs.length : Int) <= 40 := by omega
 clear hok hno hr h40;go_enter Tryz.func73, Tryz.ntmps73
 go_wp2
 go_loopw [3, 11] (fun B I wr => ∃ (k : Nat) (b : Int), k <= vs.length /\ I = .int .i64 k /\ B = .int .i64 b /\ 0 <= b /\ b <= 3000 /\ Cs.okV 0 vs = Cs.okV b (vs.drop k) /\ Below w.heap.size w wr)
  (fun _ I _ => vs.length - (intOf I).toNat)
 case atStart => exact ⟨0, 0, Nat.zero_le _, rfl, rfl, by omega, by omega, by simp, Below.refl _ _⟩
 obtain ⟨k, b, hk, rfl, rfl, hb0, hb1, hF, hB⟩ := hrel;by_cases hlt : k < vs.length
 ·obtain ⟨hs1, hs2⟩ := Cs.y7r hlt hF;obtain ⟨bv, ov, rfl, hbv, e0, e1⟩ := (hR.below hB (Nat.le_refl _)).var hlt;obtain ⟨⟨y, e⟩, hv⟩ : ∃ v, vs[k] = v := ⟨_, rfl⟩;rw [hv] at hs1 hs2 e0 e1;dsimp only at hs1 hs2 e0 e1;have hB2 := hB.alloc hB.size (.cells #[.int .i64 y, .int .i64 e] 116);have HB2 := jQ hB2;clear hB2 hv hF;by_cases g1 : b + 1 <= y /\ y <= 3000
  ·have d1 : decide (b + 1 <= y /\ y <= 3000) = true := decide_eq_true g1;by_cases g2 : -60 <= e /\ e <= 60
   ·have d2 : decide (-60 <= e /\ e <= 60) = true := decide_eq_true g2;have HF := jQ (hs1 ⟨g1.1, g1.2, g2.1, g2.2⟩);obtain ⟨g3, g4⟩ := g1;clear hs1 hs2 g2;go_wp2_with (go_at_call 127; refine (y0H _ _ _ _).mono ?_; (first | rw [d1] | rw [d2]); rintro e w' ⟨rfl, rfl⟩);go_roundw
    case rel => exact ⟨k + 1, y, by omega, by go_num, rfl, by omega, by omega, HF.o, HB2.o⟩
    case measure => simp [intOf]; omega
   have d2 : decide (-60 <= e /\ e <= 60) = false := decide_eq_false g2;have HF := jQ (HNO.o (hs2 (fun h => g2 h.2.2)));clear hs1 hs2 g1 g2;go_wp2_with (go_at_call 127; refine (y0H _ _ _ _).mono ?_; (first | rw [d1] | rw [d2]); rintro e w' ⟨rfl, rfl⟩);go_ret;exact ⟨y02 (by rw [HF.o]), HB2.o⟩
  have d1 : decide (b + 1 <= y /\ y <= 3000) = false := decide_eq_false g1;have HF := jQ (HNO.o (hs2 (fun h => g1 ⟨h.1, h.2.1⟩)));clear hs1 hs2 g1;go_wp2_with (go_at_call 127; refine (y0H _ _ _ _).mono ?_; rw [d1]; rintro e w' ⟨rfl, rfl⟩);go_ret;exact ⟨y02 (by rw [HF.o]), HB2.o⟩
 obtain rfl : k = vs.length := by omega
 rw [List.drop_length] at hF;have HF := jQ (HOK.o hF);clear hF
 go_wp2
 go_ret;exact ⟨y02 (by rw [HF.o]), hB⟩
theorem y0h (A : Option Addr) (c : Nat) (vs : List (Int × Int)) (w : World) (hR : Rd w w.heap.size 2 A vs.length (vcells vs)) (hl : vs.length <= 1000000) :
  Calls Tryz.prog 85 #[.slice A vs.length c] w fun e w' => e = .returned (.int .i64 (Cs.varsE vs)) /\ Below w.heap.size w w' := by
 by_cases h40 : 40 < vs.length
 ·rw [Cs.y4d h40];go_enter Tryz.func85, Tryz.ntmps85
  go_wp2
  go_ret;exact ⟨rfl, Below.refl _ _⟩
 have hok := fun h => Cs.y84 h40 h;have hno := fun h => Cs.y83 h40 h;obtain ⟨r, hr⟩ := zE (Cs.varsE vs);rw [hr] at hok hno ⊢;have h40' : vs.length <= 40 := by omega
 have HOK := jQ hok;have HNO := jQ hno;have h41 : (vs.length : Int) <= 40 := by omega
 clear hok hno hr h40;go_enter Tryz.func85, Tryz.ntmps85
 go_wp2
 go_loopw [3] (fun I wr => ∃ k : Nat, k <= vs.length /\ I = .int .i64 k /\ 0 <= Cs.prev vs k /\ Cs.okV 0 vs = Cs.okV (Cs.prev vs k) (vs.drop k) /\ Below w.heap.size w wr)
  (fun I _ => vs.length - (intOf I).toNat)
 case atStart => exact ⟨0, Nat.zero_le _, rfl, by simp [Cs.prev], by simp [Cs.prev], Below.refl _ _⟩
 obtain ⟨k, hk, rfl, hb0, hF, hB⟩ := hrel;by_cases hlt : k < vs.length
 ·obtain ⟨hs1, hs2⟩ := Cs.y7r hlt hF;have hpk := Cs.yAP hlt;obtain ⟨bv, ov, rfl, hbv, e0, e1⟩ := (hR.below hB (Nat.le_refl _)).var hlt;have hpv : 0 < k -> wr.cell? ⟨bv, ov + (k - 1) * 2, none⟩ = some (.int .i64 (Cs.prev vs k)) := fun h => by
   obtain ⟨b', o', e', _, p0, _⟩ := (hR.below hB (Nat.le_refl _)).var (k := k - 1) (by omega);cases e';have := Cs.yAP (vs := vs) (k := k - 1) (by omega);rw [show k - 1 + 1 = k by omega] at this;rw [this];exact p0
  have hz : k = 0 -> Cs.prev vs k = 0 := fun h => by subst h; rfl
  obtain ⟨⟨y, e⟩, hv⟩ : ∃ v, vs[k] = v := ⟨_, rfl⟩;rw [hv] at hs1 hs2 e0 e1 hpk;dsimp only at hs1 hs2 e0 e1 hpk;obtain ⟨b, hbb⟩ := zE (Cs.prev vs k);rw [hbb] at hs1 hs2 hpv hz hb0;have hB2 := hB.alloc hB.size (.cells #[.int .i64 y, .int .i64 e] 116);have hlb : bv < wr.heap.size := Nat.lt_of_lt_of_le hbv hB.size;have HB2 := jQ hB2;have HPK := jQ hpk;clear hB2 hv hF hbb hpk hB;have hk0 : (0 : Int) <= (k : Int) := Int.natCast_nonneg _;have hki : (k : Int) < (vs.length : Int) := by omega
  by_cases hg : b + 1 <= y /\ y <= 3000 /\ -60 <= e /\ e <= 60
  ·have HF := jQ (hs1 hg);obtain ⟨g1, g2, g3, g4⟩ := hg;have q1 : decide (y < 1) = false := decide_eq_false (by omega);have q2 : decide (3000 < y) = false := decide_eq_false (by omega);have q3 : decide (e < -60) = false := decide_eq_false (by omega);have q4 : decide (60 < e) = false := decide_eq_false (by omega);have q5 : decide (y <= b) = false := decide_eq_false (by omega);clear hs1 hs2 hz;rcases Nat.eq_zero_or_pos k with hk0' | hk0'
   ·subst hk0';rw [Nat.zero_mul, Nat.add_zero] at e0 e1;clear hpv
    go_wp2
    go_quiet (fail)
    go_wp2
    go_roundw
    case rel => exact ⟨1, by omega, rfl, by rw [HPK.o]; omega, by rw [HPK.o]; exact HF.o, y05 HB2.o _⟩
    case measure => simp [intOf]; omega
   have p0 := hpv hk0';have h1k : (1 : Int) <= (k : Int) := by omega
   have hk1 : ((k : Int) - 1).toNat = k - 1 := by omega
   have hk2 : (k : Int) - 1 < (vs.length : Int) := by omega
   have q6 : decide ((0 : Int) < (k : Int)) = true := decide_eq_true (by omega);clear hpv
   go_wp2
   go_quiet (fail)
   go_wp2
   go_roundw
   case rel => exact ⟨k + 1, by omega, by go_num, by rw [HPK.o]; omega, by rw [HPK.o]; exact HF.o, y05 HB2.o _⟩
   case measure => simp [intOf]; omega
  have HF := jQ (HNO.o (hs2 hg));have hcs : y < 1 ∨ (1 <= y /\ 3000 < y) ∨ (1 <= y /\ y <= 3000 /\ e < -60) ∨ (1 <= y /\ y <= 3000 /\ -60 <= e /\ 60 < e) ∨ (1 <= y /\ y <= 3000 /\ -60 <= e /\ e <= 60 /\ 0 < k /\ y <= b) := by
   rcases Nat.eq_zero_or_pos k with h | h
   ·have := hz h;omega
   omega
  clear hs1 hs2 hz hg;rcases hcs with g1 | ⟨g1, g2⟩ | ⟨g1, g2, g3⟩ | ⟨g1, g2, g3, g4⟩ | ⟨g1, g2, g3, g4, g5, g6⟩
  ·have q1 : decide (y < 1) = true := decide_eq_true (by omega);clear hpv
   go_wp2
   go_quiet (fail)
   go_wp2
   go_ret;exact ⟨y02 (by rw [HF.o]), y05 HB2.o _⟩
  ·have q1 : decide (y < 1) = false := decide_eq_false (by omega);have q2 : decide (3000 < y) = true := decide_eq_true (by omega);clear hpv
   go_wp2
   go_quiet (fail)
   go_wp2
   go_ret;exact ⟨y02 (by rw [HF.o]), y05 HB2.o _⟩
  ·have q1 : decide (y < 1) = false := decide_eq_false (by omega);have q2 : decide (3000 < y) = false := decide_eq_false (by omega);have q3 : decide (e < -60) = true := decide_eq_true (by omega);clear hpv
   go_wp2
   go_quiet (fail)
   go_wp2
   go_ret;exact ⟨y02 (by rw [HF.o]), y05 HB2.o _⟩
  ·have q1 : decide (y < 1) = false := decide_eq_false (by omega);have q2 : decide (3000 < y) = false := decide_eq_false (by omega);have q3 : decide (e < -60) = false := decide_eq_false (by omega);have q4 : decide (60 < e) = true := decide_eq_true (by omega);clear hpv
   go_wp2
   go_quiet (fail)
   go_wp2
   go_ret;exact ⟨y02 (by rw [HF.o]), y05 HB2.o _⟩
  have p0 := hpv g5;have q1 : decide (y < 1) = false := decide_eq_false (by omega);have q2 : decide (3000 < y) = false := decide_eq_false (by omega);have q3 : decide (e < -60) = false := decide_eq_false (by omega);have q4 : decide (60 < e) = false := decide_eq_false (by omega);have q5 : decide (y <= b) = true := decide_eq_true (by omega);have h1k : (1 : Int) <= (k : Int) := by omega
  have hk1 : ((k : Int) - 1).toNat = k - 1 := by omega
  have hk2 : (k : Int) - 1 < (vs.length : Int) := by omega
  have q6 : decide ((0 : Int) < (k : Int)) = true := decide_eq_true (by omega);clear hpv
  go_wp2
  go_quiet (fail)
  go_wp2
  go_ret;exact ⟨y02 (by rw [HF.o]), y05 HB2.o _⟩
 obtain rfl : k = vs.length := by omega
 rw [List.drop_length] at hF;have HF := jQ (HOK.o hF);clear hF
 go_wp2
 go_ret;exact ⟨y02 (by rw [HF.o]), hB⟩
end

section
open Go.RowKit
namespace Cs
theorem y6t (year : Int) (a b : List (Int × Int)) (acc : Int × Bool) : decG year acc (a ++ b) = decG year (decG year acc a) b := by
  induction a generalizing acc with
  | nil => rfl
  | cons v a ih =>
    obtain ⟨y, e⟩ := v;rw [List.cons_append, decG, decG, ih]
theorem yBs {vs : List (Int × Int)} (h : varsE vs = 0) (year : Int) : dec vs year = decG year (0, false) vs := by rw [dec, if_pos h]
theorem yBr {vs : List (Int × Int)} (h : varsE vs ≠ 0) (year : Int) : dec vs year = (0, false) := by rw [dec, if_neg h]
theorem y6V {vs : List (Int × Int)} (h : varsE vs = 0) : vs.length <= 40 := by
 unfold varsE at h;split at h
 ·cases h
 omega
theorem y9e {year : Int} {vs : List (Int × Int)} {k : Nat} {acc : Int × Bool} (hk : k < vs.length) : decG year acc (vs.drop k) = decG year (if vs[k].1 <= year then (vs[k].2, true) else acc) (vs.drop (k + 1)) := by
 rw [List.drop_eq_getElem_cons hk];rfl
theorem y9d {year : Int} {vs : List (Int × Int)} {k : Nat} {acc : Int × Bool} (hk : k < vs.length) : decG year acc (vs.take (k + 1)) = if vs[k].1 <= year then (vs[k].2, true) else decG year acc (vs.take k) := by
 rw [List.take_succ_eq_append_getElem hk, y6t];rfl
end Cs
theorem y1d (A : Option Addr) (c : Nat) (vs : List (Int × Int)) (year : Int) (w : World) (hR : Rd w w.heap.size 2 A vs.length (vcells vs)) (hl : vs.length <= 1000000) :
  Calls Tryz.prog 286 #[.slice A vs.length c, .int .i64 year] w fun e w' => e = .returned (.tuple #[.int .i64 (Cs.dec vs year).1, .bool (Cs.dec vs year).2]) /\ Below w.heap.size w w' := by
 have hcv := y0k A c vs w hR hl;by_cases hs : Cs.varsE vs = 0
 ·rw [hs] at hcv;have h40 := Cs.y6V hs;rw [Cs.yBs hs];obtain ⟨r, hr⟩ := zE (Cs.decG year (0, false) vs);have hr0 : Cs.decG year (0, false) (vs.drop 0) = r := by simpa using hr
  rw [hr];have HCV := jQ hcv;have HR0 := jQ hr0;clear hcv hr0 hr hs;go_enter Tryz.func286, Tryz.ntmps286;go_wp2_with fail;refine HCV.o.mono ?_;rintro e w1 ⟨rfl, hb1⟩;go_wp2_with fail;go_loopw [6, 7, 15] (fun E K I wr => ∃ (k : Nat) (x : Int) (b : Bool), k <= vs.length /\ I = .int .i64 k /\ E = .int .i64 x /\ K = .bool b /\ Cs.decG year (x, b) (vs.drop k) = r /\ Below w.heap.size w wr)
   (fun _ _ I _ => vs.length - (intOf I).toNat)
  case atStart => exact ⟨0, 0, false, Nat.zero_le _, rfl, rfl, rfl, HR0.o, hb1⟩
  clear hb1;obtain ⟨k, x, b, hk, rfl, rfl, rfl, hF, hB⟩ := hrel;by_cases hlt : k < vs.length
  ·rw [Cs.y9e hlt] at hF;obtain ⟨bv, ov, rfl, hbv, e0, e1⟩ := (hR.below hB (Nat.le_refl _)).var hlt;obtain ⟨⟨y, e⟩, hv⟩ : ∃ v, vs[k] = v := ⟨_, rfl⟩;rw [hv] at e0 e1 hF;dsimp only at e0 e1 hF;have HB2 := jQ (hB.alloc hB.size (.cells #[.int .i64 y, .int .i64 e] 116));clear hv hB;by_cases g : y <= year
   ·rw [if_pos g] at hF;have HF := jQ hF;clear hF;go_wp2_with fail;go_roundw
    case rel => exact ⟨k + 1, e, true, by omega, by go_num, rfl, rfl, HF.o, HB2.o⟩
    case measure => simp [intOf]; omega
   rw [if_neg g] at hF;have HF := jQ hF;clear hF;go_wp2_with fail;go_roundw
   case rel => exact ⟨k + 1, x, b, by omega, by go_num, rfl, rfl, HF.o, HB2.o⟩
   case measure => simp [intOf]; omega
  obtain rfl : k = vs.length := by omega
  rw [List.drop_length] at hF;have HF := jQ (show (x, b) = r from hF);clear hF;go_wp2_with fail;go_ret2;have h := HF.o;subst h;exact ⟨rfl, hB⟩
 rw [Cs.yBr hs];have hne : (Cs.varsE vs != 0) = true := by simp [hs]
 obtain ⟨s, hss⟩ := zE (Cs.varsE vs);rw [hss] at hcv hne;have HCV := jQ hcv;clear hcv hs hss;go_enter Tryz.func286, Tryz.ntmps286;go_wp2_with fail;refine HCV.o.mono ?_;rintro e w1 ⟨rfl, hb1⟩;go_wp2_with fail;go_ret2;exact ⟨rfl, hb1⟩
theorem y1Z (A : Option Addr) (c : Nat) (vs : List (Int × Int)) (year : Int) (w : World) (hR : Rd w w.heap.size 2 A vs.length (vcells vs)) (hl : vs.length <= 1000000) :
  Calls Tryz.prog 213 #[.slice A vs.length c, .int .i64 year] w fun e w' => e = .returned (.tuple #[.int .i64 (Cs.dec vs year).1, .bool (Cs.dec vs year).2]) /\ Below w.heap.size w w' := by
 have hcv := y0h A c vs w hR hl;by_cases hs : Cs.varsE vs = 0
 ·rw [hs] at hcv;have h40 := Cs.y6V hs;rw [Cs.yBs hs];obtain ⟨r, hr⟩ := zE (Cs.decG year (0, false) vs);have hr0 : Cs.decG year (0, false) (vs.take vs.length) = r := by rw [List.take_length]; exact hr
  rw [hr];have HCV := jQ hcv;have HR0 := jQ hr0;clear hcv hr0 hr hs;go_enter Tryz.func213, Tryz.ntmps213;go_wp2_with fail;refine HCV.o.mono ?_;rintro e w1 ⟨rfl, hb1⟩;go_wp2_with fail;go_loopw [6] (fun I wr => ∃ k : Nat, k <= vs.length /\ I = .int .i64 ((k : Int) - 1) /\ Cs.decG year (0, false) (vs.take k) = r /\ Below w.heap.size w wr)
   (fun I _ => (intOf I + 1).toNat)
  case atStart => exact ⟨vs.length, Nat.le_refl _, rfl, HR0.o, hb1⟩
  clear hb1;obtain ⟨k, hk, rfl, hF, hB⟩ := hrel;rcases k with _ | k
  ·have HF := jQ (show ((0 : Int), false) = r from hF);clear hF;rw [show ((0 : Nat) : Int) - 1 = -1 from rfl];go_wp2_with fail;go_ret2;have h := HF.o;subst h;exact ⟨rfl, hB⟩
  have hlt : k < vs.length := by omega
  rw [Cs.y9d hlt] at hF;obtain ⟨bv, ov, rfl, hbv, e0, e1⟩ := (hR.below hB (Nat.le_refl _)).var hlt;obtain ⟨⟨y, e⟩, hv⟩ : ∃ v, vs[k] = v := ⟨_, rfl⟩;rw [hv] at e0 e1 hF;dsimp only at e0 e1 hF;have HB2 := jQ hB;have hki : ((k + 1 : Nat) : Int) - 1 = (k : Int) := by omega
  rw [hki];have hk0 : (0 : Int) <= (k : Int) := Int.natCast_nonneg _;have hkl : (k : Int) < (vs.length : Int) := by omega
  clear hv hB;by_cases g : y <= year
  ·rw [if_pos g] at hF;have HF := jQ hF;clear hF;go_wp2_with fail;go_ret2;have h := HF.o;subst h;exact ⟨rfl, HB2.o⟩
  rw [if_neg g] at hF;have HF := jQ hF;clear hF;go_wp2_with fail;go_roundw
  case rel => exact ⟨k, by omega, by go_num, HF.o, HB2.o⟩
  case measure => first | (simp [intOf]; done) | (simp [intOf]; omega)
 rw [Cs.yBr hs];have hne : (Cs.varsE vs != 0) = true := by simp [hs]
 obtain ⟨s, hss⟩ := zE (Cs.varsE vs);rw [hss] at hcv hne;have HCV := jQ hcv;clear hcv hs hss;go_enter Tryz.func213, Tryz.ntmps213;go_wp2_with fail;refine HCV.o.mono ?_;rintro e w1 ⟨rfl, hb1⟩;go_wp2_with fail;go_ret2;exact ⟨rfl, hb1⟩
theorem yB6 (a s l : Int) (w : World) (ha : -500 <= a /\ a <= 500) (hs : 0 <= s /\ s <= 200) (hl : 1 <= l /\ l <= 100000) :
  Calls Tryz.prog 306 #[.agg #[.int .i64 a, .int .i64 s], .int .i64 l] w fun e w' => e = .returned (.tuple #[.int .i64 (l * (10000 + a - s)), .int .i64 (l * (10000 + a + s))]) /\ Below w.heap.size w w' := by
 have hB := (Below.refl w.heap.size w).alloc (Nat.le_refl _) (.cells #[.int .i64 a, .int .i64 s] 44);have m1 : 0 <= l * (10000 + a - s) := Int.mul_nonneg (by omega) (by omega);have m2 : l * (10000 + a - s) <= 100000 * 10700 := Int.mul_le_mul (by omega) (by omega) (by omega) (by omega);have m3 : 0 <= l * (10000 + a + s) := Int.mul_nonneg (by omega) (by omega);have m4 : l * (10000 + a + s) <= 100000 * 10700 := Int.mul_le_mul (by omega) (by omega) (by omega) (by omega);have w1 : IntKind.i64.wrap (10000 + a) = 10000 + a := IntWalk.i64_in _ (by omega);have w2 : IntKind.i64.wrap (10000 + a - s) = 10000 + a - s := IntWalk.i64_in _ (by omega);have w3 : IntKind.i64.wrap (10000 + a + s) = 10000 + a + s := IntWalk.i64_in _ (by omega);have w4 : IntKind.i64.wrap (l * (10000 + a - s)) = l * (10000 + a - s) := IntWalk.i64_in _ (by omega);have w5 : IntKind.i64.wrap (l * (10000 + a + s)) = l * (10000 + a + s) := IntWalk.i64_in _ (by omega);have HB := jQ hB;clear hB;go_enter Tryz.func306, Tryz.ntmps306
 go_wp2
 go_quiet (fail)
 go_wp2
 go_ret2;exact ⟨rfl, y05 HB.o _⟩
end

section
open Go.RowKit
def aval (a : Cs.Aim) : Value := .agg #[.int .i64 a.low, .int .i64 a.high, .int .i64 a.near, .int .i64 a.far]
theorem y5X (A : Option Addr) (c : Nat) (vs : List (Int × Int)) (co : Cs.Co) (w : World) (hR : Rd w w.heap.size 2 A vs.length (vcells vs)) (hl : vs.length <= 1000000) (hco : Cs.courseOk co = true) :
  Calls Tryz.prog 287 #[.slice A vs.length c, cval co] w fun e w' => e = .returned (aval (Cs.aimOf vs co)) /\ Below w.heap.size w w' := by
 obtain ⟨⟨b0, b1⟩, ⟨n0, n1⟩, hl1, hy, hw, hs⟩ := (Cs.y0Q co).1 hco;obtain ⟨d0, d1⟩ := Cs.y29 vs co.y;obtain ⟨m0, m1⟩ := Cs.y5v vs co;have hmid : Cs.midF vs co = Cs.norm (co.b + (Cs.dec vs co.y).1 + 90) - 90 := rfl;have hres : Cs.aimOf vs co = ⟨Cs.midF vs co - co.n, Cs.midF vs co + co.n, co.l * (10000 + co.w - co.s), co.l * (10000 + co.w + co.s)⟩ := rfl;have hdc := fun w h => y1d A c vs co.y w h hl;have hen := fun w => yB6 co.w co.s co.l w hw hs hl1;obtain ⟨b, n, l, y, a, s⟩ := co;dsimp only at b0 b1 n0 n1 hl1 hy hw hs d0 d1 hmid hres hdc hen;rw [hres];obtain ⟨⟨de, dk⟩, hde⟩ : ∃ q, Cs.dec vs y = q := ⟨_, rfl⟩;simp only [hde] at d0 d1 hmid hdc;have hnm := fun w => y0s (b + de + 90) w;obtain ⟨q0, q1⟩ := Cs.y0M (b + de + 90);obtain ⟨nm, hnn⟩ := zE (Cs.norm (b + de + 90));simp only [hnn] at hmid hnm q0 q1;rw [hmid] at m0 m1 ⊢;obtain ⟨ne, hne⟩ := zE (l * (10000 + a - s));obtain ⟨fa, hfa⟩ := zE (l * (10000 + a + s));simp only [hne, hfa] at hen ⊢;have hB0 : Below w.heap.size w ((w.alloc (.cells #[.int .i64 b, .int .i64 n, .int .i64 l, .int .i64 y, .int .i64 a, .int .i64 s] 46)).alloc (.cells #[.int .i64 0, .int .i64 0, .int .i64 0, .int .i64 0] 275)) := ((Below.refl _ _).alloc (Nat.le_refl _) _).alloc (by simp) _;have kC := (Bk.new w 46 #[.int .i64 b, .int .i64 n, .int .i64 l, .int .i64 y, .int .i64 a, .int .i64 s]).alloc (.cells #[.int .i64 0, .int .i64 0, .int .i64 0, .int .i64 0] 275);have kA := Bk.new (w.alloc (.cells #[.int .i64 b, .int .i64 n, .int .i64 l, .int .i64 y, .int .i64 a, .int .i64 s] 46)) 275 #[.int .i64 0, .int .i64 0, .int .i64 0, .int .i64 0];rw [World.size_alloc] at kA;have hR1 := (hR.below hB0 (Nat.le_refl _)).more hB0.size;have HDC := jQ hdc;have HEN := jQ hen;have HNM := jQ hnm;clear hdc hen hnm hde hnn hne hfa hmid hres hco hy hl1 hw hs;show Calls Tryz.prog 287 #[.slice A vs.length c, .agg #[.int .i64 b, .int .i64 n, .int .i64 l, .int .i64 y, .int .i64 a, .int .i64 s]] w _;go_enter Tryz.func287, Tryz.ntmps287;go_wp2_with fail;refine (HDC.o _ hR1).mono ?_;rintro e w1 ⟨rfl, hb1⟩;have kC1 := kC.below hb1 kC.lt;have kA1 := kA.below hb1 kA.lt;have hB1 := hB0.trans (hb1.mono hB0.size);clear kC kA hB0 hR1 hb1;have c0 := (kC1.cell 0).trans rfl;have c1 := (kC1.cell 1).trans rfl;have c2 := (kC1.cell 2).trans rfl;have c4 := (kC1.cell 4).trans rfl;have c5 := (kC1.cell 5).trans rfl;have lc := kC1.lt;go_wp2_with (go_at_call 119; refine (HNM.o _).mono ?_; rintro e w' ⟨rfl, rfl⟩);refine (HEN.o _).mono ?_;rintro e w2 ⟨rfl, hb2⟩;have kC2 := kC1.below hb2 kC1.lt;have kA2 := kA1.below hb2 kA1.lt;have hB2 := hB1.trans (hb2.mono hB1.size);clear c0 c1 c2 c4 c5 lc kC1 kA1 hB1 hb2;have c1 := (kC2.cell 1).trans rfl;have a0 := (kA2.cell 0).trans rfl;have a1 := (kA2.cell 1).trans rfl;have a2 := (kA2.cell 2).trans rfl;have a3 := (kA2.cell 3).trans rfl;have f0 := kA2.frozen 0;have f1 := kA2.frozen 1;have f2 := kA2.frozen 2;have f3 := kA2.frozen 3;have lc := kC2.lt;have la := kA2.lt;have hk := (((kA2.set 0 (.int .i64 (nm - 90 - n))).set 1 (.int .i64 (nm - 90 + n))).set 2 (.int .i64 ne)).set 3 (.int .i64 fa);have hB3 := (((hB2.setCell (p := ⟨w.heap.size + 1, 0, none⟩) (by simp) (.int .i64 (nm - 90 - n))).setCell (p := ⟨w.heap.size + 1, 1, none⟩) (by simp) (.int .i64 (nm - 90 + n))).setCell (p := ⟨w.heap.size + 1, 2, none⟩) (by simp) (.int .i64 ne)).setCell (p := ⟨w.heap.size + 1, 3, none⟩) (by simp) (.int .i64 fa);have REL := jQ (And.intro hk hB3);clear hk hB3 kA2 kC2;go_wp2_with fail;exact bodyPost_ret (v := .agg #[.int .i64 (nm - 90 - n), .int .i64 (nm - 90 + n), .int .i64 ne, .int .i64 fa]) (results_cell_row rfl _ _ (w.heap.size + 1) 275 _ (0, 0) _ rfl REL.o.1 Tryz.underlying275 rfl (by kernel_rfl)) rfl ⟨rfl, REL.o.2⟩
theorem y6d (A : Option Addr) (c : Nat) (vs : List (Int × Int)) (co : Cs.Co) (dx : Int) (w : World) (hR : Rd w w.heap.size 2 A vs.length (vcells vs)) (hl : vs.length <= 1000000) (hco : Cs.courseOk co = true) :
  Calls Tryz.prog 269 #[.slice A vs.length c, cval co, .int .i64 dx] w fun e w' => e = .returned (aval (Cs.aimEast vs co dx)) /\ Below w.heap.size w w' := by
 obtain ⟨⟨b0, b1⟩, ⟨n0, n1⟩, hl1, hy, hw, hs⟩ := (Cs.y0Q co).1 hco;have hB0 : Below w.heap.size w ((w.alloc (.cells #[.int .i64 co.b, .int .i64 co.n, .int .i64 co.l, .int .i64 co.y, .int .i64 co.w, .int .i64 co.s] 46)).alloc (.cells #[.int .i64 0, .int .i64 0, .int .i64 0, .int .i64 0] 275)) := ((Below.refl _ _).alloc (Nat.le_refl _) _).alloc (by simp) _;have kC := (Bk.new w 46 #[.int .i64 co.b, .int .i64 co.n, .int .i64 co.l, .int .i64 co.y, .int .i64 co.w, .int .i64 co.s]).alloc (.cells #[.int .i64 0, .int .i64 0, .int .i64 0, .int .i64 0] 275);have kA := Bk.new (w.alloc (.cells #[.int .i64 co.b, .int .i64 co.n, .int .i64 co.l, .int .i64 co.y, .int .i64 co.w, .int .i64 co.s] 46)) 275 #[.int .i64 0, .int .i64 0, .int .i64 0, .int .i64 0];rw [World.size_alloc] at kA;have hfin : ∀ w1, Bk w1 (w.heap.size + 1) 275 #[.int .i64 0, .int .i64 0, .int .i64 0, .int .i64 0] -> Below w.heap.size w w1 -> ∀ am : Cs.Aim,
   Bk ((((w1.setCell ⟨w.heap.size + 1, 0, none⟩ (.int .i64 am.low)).setCell ⟨w.heap.size + 1, 1, none⟩ (.int .i64 am.high)).setCell ⟨w.heap.size + 1, 2, none⟩ (.int .i64 am.near)).setCell ⟨w.heap.size + 1, 3, none⟩ (.int .i64 am.far)) (w.heap.size + 1) 275 #[.int .i64 am.low, .int .i64 am.high, .int .i64 am.near, .int .i64 am.far] /\
   Below w.heap.size w ((((w1.setCell ⟨w.heap.size + 1, 0, none⟩ (.int .i64 am.low)).setCell ⟨w.heap.size + 1, 1, none⟩ (.int .i64 am.high)).setCell ⟨w.heap.size + 1, 2, none⟩ (.int .i64 am.near)).setCell ⟨w.heap.size + 1, 3, none⟩ (.int .i64 am.far)) := fun w1 h hB am =>
  ⟨(((h.set 0 _).set 1 _).set 2 _).set 3 _, (((hB.setCell (p := ⟨w.heap.size + 1, 0, none⟩) (by simp) _).setCell (p := ⟨w.heap.size + 1, 1, none⟩) (by simp) _).setCell (p := ⟨w.heap.size + 1, 2, none⟩) (by simp) _).setCell (p := ⟨w.heap.size + 1, 3, none⟩) (by simp) _⟩
 have HFIN := jQ hfin;by_cases hd : dx < 0
 ·have hres : Cs.aimEast vs co dx = Cs.aimOf vs (Cs.turn co) := by rw [Cs.aimEast, if_pos hd]
  rw [hres];have hao := fun w h => y5X A c vs (Cs.turn co) w h hl (Cs.y3a hco);obtain ⟨am, ham⟩ := zE (Cs.aimOf vs (Cs.turn co));simp only [ham] at hao ⊢;have hnm := fun w => y0s (co.b + 180) w;have htv : cval (Cs.turn co) = .agg #[.int .i64 (Cs.norm (co.b + 180)), .int .i64 co.n, .int .i64 co.l, .int .i64 co.y, .int .i64 co.w, .int .i64 co.s] := rfl;rw [htv] at hao;obtain ⟨b, n, l, y, a, s⟩ := co;dsimp only at *;obtain ⟨nb, hnb⟩ := zE (Cs.norm (b + 180));simp only [hnb] at hao hnm;have HAO := jQ hao;have HNM := jQ hnm;have c0 := (kC.cell 0).trans rfl;have c1 := (kC.cell 1).trans rfl;have c2 := (kC.cell 2).trans rfl;have c3 := (kC.cell 3).trans rfl;have c4 := (kC.cell 4).trans rfl;have c5 := (kC.cell 5).trans rfl;have f0 := kC.frozen 0;have lc := kC.lt;have hB2 : Below w.heap.size w ((w.alloc (.cells #[.int .i64 nb, .int .i64 n, .int .i64 l, .int .i64 y, .int .i64 a, .int .i64 s] 46)).alloc (.cells #[.int .i64 0, .int .i64 0, .int .i64 0, .int .i64 0] 275)) := ((Below.refl _ _).alloc (Nat.le_refl _) _).alloc (by simp) _;have kA2 := Bk.new (w.alloc (.cells #[.int .i64 nb, .int .i64 n, .int .i64 l, .int .i64 y, .int .i64 a, .int .i64 s] 46)) 275 #[.int .i64 0, .int .i64 0, .int .i64 0, .int .i64 0];rw [World.size_alloc] at kA2;have hR2 := (hR.below hB2 (Nat.le_refl _)).more hB2.size;have REL := jQ (And.intro hR2 (And.intro kA2 hB2));clear hao hnm hnb ham hres htv hco hfin kC kA hB0 hR hR2 kA2 hB2 hy hl1 hw hs;show Calls Tryz.prog 269 #[.slice A vs.length c, .agg #[.int .i64 b, .int .i64 n, .int .i64 l, .int .i64 y, .int .i64 a, .int .i64 s], .int .i64 dx] w _;go_enter Tryz.func269, Tryz.ntmps269;go_wp2_with (go_at_call 119; refine (HNM.o _).mono ?_; rintro e w' ⟨rfl, rfl⟩);refine (HAO.o _ REL.o.1).mono ?_;rintro e w1 ⟨rfl, hb1⟩;have kA1 := REL.o.2.1.below hb1 REL.o.2.1.lt;have hB1 := REL.o.2.2.trans (hb1.mono REL.o.2.2.size);have hR3 := HFIN.o w1 kA1 hB1 am;have f0 := kA1.frozen 0;have f1 := kA1.frozen 1;have f2 := kA1.frozen 2;have f3 := kA1.frozen 3;have a0 := (kA1.cell 0).trans rfl;have a1 := (kA1.cell 1).trans rfl;have a2 := (kA1.cell 2).trans rfl;have a3 := (kA1.cell 3).trans rfl;have R3 := jQ hR3;obtain ⟨al, ah, an, af⟩ := am;unfold aval;dsimp only at *;clear hR3 kA1 hB1 c0 c1 c2 c3 c4 c5;go_wp2_with fail;exact bodyPost_ret (v := .agg #[.int .i64 al, .int .i64 ah, .int .i64 an, .int .i64 af]) (results_cell_row rfl _ _ (w.heap.size + 1) 275 _ (0, 0) _ rfl R3.o.1 Tryz.underlying275 rfl (by kernel_rfl)) rfl ⟨rfl, R3.o.2⟩
 have hres : Cs.aimEast vs co dx = Cs.aimOf vs co := by rw [Cs.aimEast, if_neg hd]
 rw [hres];have hao := fun w h => y5X A c vs co w h hl hco;obtain ⟨am, ham⟩ := zE (Cs.aimOf vs co);simp only [ham] at hao ⊢;have htv : cval co = .agg #[.int .i64 co.b, .int .i64 co.n, .int .i64 co.l, .int .i64 co.y, .int .i64 co.w, .int .i64 co.s] := rfl;rw [htv] at hao;obtain ⟨b, n, l, y, a, s⟩ := co;dsimp only at *;have HAO := jQ hao;have c0 := (kC.cell 0).trans rfl;have c1 := (kC.cell 1).trans rfl;have c2 := (kC.cell 2).trans rfl;have c3 := (kC.cell 3).trans rfl;have c4 := (kC.cell 4).trans rfl;have c5 := (kC.cell 5).trans rfl;have lc := kC.lt;have hR2 := (hR.below hB0 (Nat.le_refl _)).more hB0.size;have REL := jQ (And.intro hR2 (And.intro kA hB0));clear hao ham hres htv hco hfin kC kA hB0 hR hR2 hy hl1 hw hs;show Calls Tryz.prog 269 #[.slice A vs.length c, .agg #[.int .i64 b, .int .i64 n, .int .i64 l, .int .i64 y, .int .i64 a, .int .i64 s], .int .i64 dx] w _;go_enter Tryz.func269, Tryz.ntmps269;go_wp2_with fail;refine (HAO.o _ REL.o.1).mono ?_;rintro e w1 ⟨rfl, hb1⟩;have kA1 := REL.o.2.1.below hb1 REL.o.2.1.lt;have hB1 := REL.o.2.2.trans (hb1.mono REL.o.2.2.size);have hR3 := HFIN.o w1 kA1 hB1 am;have f0 := kA1.frozen 0;have f1 := kA1.frozen 1;have f2 := kA1.frozen 2;have f3 := kA1.frozen 3;have a0 := (kA1.cell 0).trans rfl;have a1 := (kA1.cell 1).trans rfl;have a2 := (kA1.cell 2).trans rfl;have a3 := (kA1.cell 3).trans rfl;have R3 := jQ hR3;obtain ⟨al, ah, an, af⟩ := am;unfold aval;dsimp only at *;clear hR3 kA1 hB1 c0 c1 c2 c3 c4 c5;go_wp2_with fail;exact bodyPost_ret (v := .agg #[.int .i64 al, .int .i64 ah, .int .i64 an, .int .i64 af]) (results_cell_row rfl _ _ (w.heap.size + 1) 275 _ (0, 0) _ rfl R3.o.1 Tryz.underlying275 rfl (by kernel_rfl)) rfl ⟨rfl, R3.o.2⟩
theorem y55 (a : Cs.Aim) (w : World) :
  Calls Tryz.prog 294 #[aval a] w fun e w' => e = .returned (.bool (decide (a.high <= 90))) /\ Below w.heap.size w w' := by
 obtain ⟨al, ah, an, af⟩ := a;have HB := jQ ((Below.refl w.heap.size w).alloc (Nat.le_refl _) (.cells #[.int .i64 al, .int .i64 ah, .int .i64 an, .int .i64 af] 275));show Calls Tryz.prog 294 #[.agg #[.int .i64 al, .int .i64 ah, .int .i64 an, .int .i64 af]] w _;go_enter Tryz.func294, Tryz.ntmps294
 go_wp2
 go_ret;exact ⟨rfl, HB.o⟩
theorem y5Q (a : Cs.Aim) (w : World) :
  Calls Tryz.prog 295 #[aval a] w fun e w' => e = .returned (.bool (decide (90 <= a.low))) /\ Below w.heap.size w w' := by
 obtain ⟨al, ah, an, af⟩ := a;have HB := jQ ((Below.refl w.heap.size w).alloc (Nat.le_refl _) (.cells #[.int .i64 al, .int .i64 ah, .int .i64 an, .int .i64 af] 275));show Calls Tryz.prog 295 #[.agg #[.int .i64 al, .int .i64 ah, .int .i64 an, .int .i64 af]] w _;go_enter Tryz.func295, Tryz.ntmps295
 go_wp2
 go_ret;exact ⟨rfl, HB.o⟩
theorem Sn.drew {w : World} (h : Sn w) : Sn w.drew := h.step (Below.refl _ _).drew
theorem y22 {x y : Int} (hx : -100000 <= x /\ x <= 100000) (hy : -10000 <= y /\ y <= 10000) : -1000000000 <= x * y /\ x * y <= 1000000000 := by
 have h1 : (x * y).natAbs <= 100000 * 10000 := by
  rw [Int.natAbs_mul];exact Nat.mul_le_mul (by omega) (by omega)
 omega
end

section
open Go.RowKit
namespace Cs
def firstNo : List Bool -> Nat -> Int
 | [], _ => 0
 | b :: r, n => if b then firstNo r (n + 1) else n + 1
def says (a : Aim) (dx dy : Int) : List Bool := [cond0 a, cond1 a dx dy, cond2 a dx dy, decide (sq dx dy <= a.far * a.far), (decide (90 < a.high) && decide (a.low < 90)) || decide (a.near * a.near <= sq dx dy)]
theorem yAG (a : Aim) (dx dy : Int) : misA a dx dy = firstNo (says a dx dy) 0 := by
 unfold misA says;rw [show cond3 a dx dy = decide (sq dx dy <= a.far * a.far) from rfl, show cond4 a dx dy = ((decide (90 < a.high) && decide (a.low < 90)) || decide (a.near * a.near <= sq dx dy)) from rfl]
 generalize decide (sq dx dy <= a.far * a.far) = c3
 generalize ((decide (90 < a.high) && decide (a.low < 90)) || decide (a.near * a.near <= sq dx dy)) = c4
 rcases cond0 a with _ | _ <;> rcases cond1 a dx dy with _ | _ <;> rcases cond2 a dx dy with _ | _ <;> rcases c3 with _ | _ <;> rcases c4 with _ | _ <;> rfl
end Cs
end
end Go.Proofs.YtccikcpcfdjobaaGreatDoor
