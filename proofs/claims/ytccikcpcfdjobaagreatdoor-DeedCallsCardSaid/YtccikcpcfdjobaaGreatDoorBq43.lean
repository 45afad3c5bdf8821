/-
  What the claims of layer deed need of the texts DBix, DQsa, DQco.
-/
import Derived.Test.YtccikcpcfdjobaaGreatDoorBq09
import Derived.Test.YtccikcpcfdjobaaGreatDoorBq17
import Derived.Test.YtccikcpcfdjobaaGreatDoorBq15
import Derived.Test.YtccikcpcfdjobaaGreatDoorBq05
import Derived.Test.YtccikcpcfdjobaaGreatDoorBq42
import Derived.Test.YtccikcpcfdjobaaGreatDoorBq16
import Derived.Test.YtccikcpcfdjobaaGreatDoorBz
set_option linter.unusedVariables false
set_option linter.unusedSimpArgs false
set_option maxHeartbeats 8000000
set_option maxRecDepth 100000
namespace Go.Proofs.YtccikcpcfdjobaaGreatDoor
section
open Go.RowKit
theorem sameBounds_same (A1 A2 : Option Addr) (c1 c2 : Nat) (ys : List Dd.Bd) (w : World) (h1 : Rd w w.heap.size 4 A1 ys.length (bcells ys)) (h2 : Rd w w.heap.size 4 A2 ys.length (bcells ys)) (hl : ys.length ≤ 1000000) :
  Calls Tryz.prog 30 #[.slice A1 ys.length c1, .slice A2 ys.length c2] w fun e w' => e = .returned (.bool true) ∧ Below w.heap.size w w' := by
 have H1 := jQ h1
 have H2 := jQ h2
 have q1 : ((ys.length : Int) != (ys.length : Int)) = false := by simp
 clear h1 h2
 go_enter Tryz.func30, Tryz.ntmps30
 go_wp2_with fail
 go_loopw [5] (fun I wr => ∃ k : Nat, k ≤ ys.length ∧ I = .int .i64 k ∧ Below w.heap.size w wr) (fun I _ => ys.length - (intOf I).toNat)
 case atStart => exact ⟨0, Nat.zero_le _, rfl, Below.refl _ _⟩
 case round =>
  obtain ⟨k, hk, rfl, hB⟩ := hrel
  have HB := jQ hB
  clear hB
  by_cases hlt : k < ys.length
  ·obtain ⟨b, off, rfl, hb, e0, e1, e2, e3⟩ := (H1.o.below HB.o (Nat.le_refl _)).bound hlt
   obtain ⟨b', off', rfl, hb', e0', e1', e2', e3'⟩ := (H2.o.below HB.o (Nat.le_refl _)).bound hlt
   have hb2 : b < wr.heap.size := Nat.lt_of_lt_of_le hb HB.o.size
   have hb3 : b' < wr.heap.size := Nat.lt_of_lt_of_le hb' HB.o.size
   obtain ⟨z, hz⟩ : ∃ z, ys[k] = z := ⟨_, rfl⟩
   rw [hz] at e0 e1 e2 e3 e0' e1' e2' e3'
   clear hz
   go_wp2_with fail
   go_quiet (fail)
   go_wp2_with fail
   go_roundw
   case rel => exact ⟨k + 1, by omega, by go_num, below_drewN HB.o _⟩
   case measure => simp [intOf]; omega
  ·obtain rfl : k = ys.length := by omega
   go_wp2_with fail
   go_ret
   exact ⟨rfl, HB.o⟩
end

section
open Go.RowKit
theorem Dd.bnds_short {f : Dd.Fd} {x : Dd.Ca} (h : Dd.callE f x = 0) (r : Int) : (Dd.bnds f x r).length ≤ 1000000 := by
 have h1 := Dd.gaps_len h
 have h2 := (Dd.field_facts (Dd.callE_zero h).1).2.2.1
 rw [Dd.bnds_len]
 omega
section
variable {w W W' : World} {v : Fv} {f : Dd.Fd} {a b : Dd.Ca}
end
end

section
open Go.RowKit
def Dd.hitB (p : Nat) (b : Dd.Bd) : Bool := decide (b.f = (p : Int)) || decide (b.t = (p : Int))
theorem Dd.concA_step (l : List Dd.Bd) (n p : Nat) : Dd.concA l (n + 1) p = (if l.any (Dd.hitB p) = true then [(p : Int)] else []) ++ Dd.concA l n (p + 1) := rfl
theorem Dd.bounds0 (f : Dd.Fd) (x : Dd.Ca) : Dd.boundsF f x 0 = if Dd.callE f x ≠ 0 then ([], Dd.callE f x) else (Dd.bnds f x 0, 0) := by
 unfold Dd.boundsF
 by_cases h : Dd.callE f x = 0
 ·have h9 : ¬ Dd.callE f x ≠ 0 := fun hn => hn h
  rw [if_neg h9, if_neg h9, if_pos (show (0 : Int) ≤ 0 ∧ (0 : Int) ≤ 1000000 by omega)]
 ·rw [if_pos h, if_pos h]
set_option maxHeartbeats 16000000 in
theorem qConcF_any (v : Fv) (f : Dd.Fd) (x : Dd.Ca) (w : World) (hF : FRd w w.heap.size v f) :
  Calls Tryz.prog 27 #[fval v f, caval x] w fun ee w' => ∃ A c, ee = .returned (.tuple #[.slice A (Dd.concF f x).1.length c, .int .i64 (Dd.concF f x).2]) ∧ Rd w' w'.heap.size 1 A (Dd.concF f x).1.length (icells (Dd.concF f x).1) ∧ Below w.heap.size w w' := by
 have hd : Dd.concF f x = if Dd.callE f x ≠ 0 then ([], Dd.callE f x) else (Dd.concA (Dd.bnds f x 0) (Dd.ptsN f - 1) 1, 0) := rfl
 have C0 := jQ (Cr.new (x := x) hF)
 have T0 := jQ (fun V (h : Cr w v f x V) => Cr.tree h)
 have B1 := jQ (fun W (h : Cr w v f x W) => qBoundsF_any v f x 0 W h.fs.rd)
 have B2 := jQ (fun W (h : Cr w v f x W) => qPoints_any v f W h.fs.rd)
 rw [Dd.bounds0] at B1
 simp only [fval_def, caval_def] at B1 B2 C0 ⊢
 obtain ⟨E, hE⟩ : ∃ E, Dd.callE f x = E := ⟨_, rfl⟩
 rw [hE] at B1 hd
 by_cases h0 : E = 0
 ·subst h0
  have hf0 := (Dd.callE_zero hE).1
  have hpt : Dd.ptsF f = (Dd.ptsN f : Int) := by unfold Dd.ptsF; rw [if_pos hf0]
  obtain ⟨hs1, hs2, hs3, hs4, -⟩ := Dd.field_facts hf0
  have hpb : 1 ≤ Dd.ptsN f ∧ Dd.ptsN f ≤ 1000 := by
   unfold Dd.ptsN
   have := Nat.mul_le_mul hs4 hs3
   omega
  obtain ⟨l, hl⟩ : ∃ l, Dd.bnds f x 0 = l := ⟨_, rfl⟩
  have hll : l.length ≤ 1000000 := by rw [← hl]; exact Dd.bnds_short hE 0
  obtain ⟨i0, hi0, hz0, hz1, hz2⟩ := info_parts infoI3
  rw [if_neg (by simp), hl] at B1 hd
  rw [hpt] at B2
  obtain ⟨N, hN⟩ : ∃ N, Dd.ptsN f = N := ⟨_, rfl⟩
  rw [hN] at hd hpb B2
  dsimp only at B1
  obtain ⟨R, hR⟩ : ∃ R, Dd.concF f x = R := ⟨_, rfl⟩
  rw [hR] at hd ⊢
  have HD := jQ hd
  have HLL := jQ hll
  clear hF hd hE hf0 hpt hs1 hs2 hs3 hs4 hl hN hR hll
  obtain ⟨⟨⟨⟨f0, f1⟩, ⟨f2, f3⟩⟩, ⟨⟨c0, c1⟩, ⟨c2, c3⟩⟩⟩, ⟨⟨⟨c4, c5⟩, ⟨c6, c7⟩⟩, ⟨⟨c8, c9⟩, ⟨c10, ⟨c11, c12⟩⟩⟩⟩⟩ := T0.o _ C0.o
  go_enter Tryz.func27, Tryz.ntmps27
  go_wp2_with fail
  refine (B1.o _ C0.o).mono ?_
  rintro ee w1 ⟨A1, k1, rfl, hr1, hb1⟩
  have C1 := jQ (C0.o.next hb1)
  have R1 := jQ hr1
  clear hb1 hr1 f0 f1 f2 f3 c0 c1 c2 c3 c4 c5 c6 c7 c8 c9 c10 c11 c12 C0
  go_wp2_with fail
  go_loopw [8, 9] (fun V I wr => ∃ (q : Nat) (L : List Int), 1 ≤ q ∧ q ≤ N ∧ I = .int .i64 q ∧ L.length ≤ q ∧ L ++ Dd.concA l (N - q) q = Dd.concA l (N - 1) 1 ∧ wr.ownsRow w1.heap.size 3 1 V L.length (icells L) ∧ Below w1.heap.size w1 wr) (fun _ I _ => N - (intOf I).toNat)
  case atStart => exact ⟨1, [], Nat.le_refl _, hpb.1, rfl, by simp, by simp, World.ownsRow_nil _ _ _ _, Below.refl _ _⟩
  case round =>
   obtain ⟨q, L, hq1, hqN, rfl, hLq, hL, hown, hB⟩ := hrel
   have HL := jQ hL
   have HO := jQ hown
   have HB := jQ hB
   have C2 := jQ (C1.o.next hB)
   clear hL hown hB
   obtain ⟨⟨⟨⟨f0, f1⟩, ⟨f2, f3⟩⟩, ⟨⟨c0, c1⟩, ⟨c2, c3⟩⟩⟩, ⟨⟨⟨c4, c5⟩, ⟨c6, c7⟩⟩, ⟨⟨c8, c9⟩, ⟨c10, ⟨c11, c12⟩⟩⟩⟩⟩ := T0.o _ C2.o
   by_cases hlt : q < N
   ·have hle : decide ((q : Int) < (N : Int)) = true := decide_eq_true (by omega)
    go_wp2_with fail
    refine (B2.o _ C2.o).mono ?_
    rintro ee w3 ⟨rfl, hb3⟩
    have C3 := jQ (C2.o.next hb3)
    have HB3 := jQ (HB.o.trans (hb3.mono HB.o.size))
    have HO3 := jQ (own_belowG HO.o hb3)
    clear hb3 f0 f1 f2 f3 c0 c1 c2 c3 c4 c5 c6 c7 c8 c9 c10 c11 c12 C2 HB HO
    go_wp2_with fail
    go_loopw [10, 11] (fun S I wr => ∃ m : Nat, m ≤ l.length ∧ S = .bool ((l.take m).any (Dd.hitB q)) ∧ I = .int .i64 m ∧ wr.ownsRow w1.heap.size 3 1 u8 L.length (icells L) ∧ Below w1.heap.size w1 wr) (fun _ I _ => l.length - (intOf I).toNat)
    case atStart => exact ⟨0, Nat.zero_le _, by simp, rfl, HO3.o, HB3.o⟩
    case round =>
     clear C3 HB3 HO3
     have hll := HLL.o
     obtain ⟨m, hm, rfl, rfl, hown, hB⟩ := hrel
     have HO := jQ hown
     have HB := jQ hB
     clear hown hB
     by_cases hmt : m < l.length
     ·obtain ⟨s, hs⟩ : ∃ s, (l.take m).any (Dd.hitB q) = s := ⟨_, rfl⟩
      rw [hs]
      obtain ⟨z, hz⟩ : ∃ z, l[m] = z := ⟨_, rfl⟩
      have HNX := jQ (show (l.take (m + 1)).any (Dd.hitB q) = (s || (decide (z.f = (q : Int)) || decide (z.t = (q : Int)))) by
       rw [← hs, List.take_succ_eq_append_getElem hmt, List.any_append, hz]
       simp [Dd.hitB])
      rcases s with _ | _
      ·obtain ⟨b, off, rfl, hb, e0, e1, e2, e3⟩ := (R1.o.below HB.o (Nat.le_refl _)).bound hmt
       have hb2 : b < wr.heap.size := Nat.lt_of_lt_of_le hb HB.o.size
       rw [hz] at e0 e1 e2 e3
       have hmi : (m : Int) < (l.length : Int) := by omega
       have HM1 := jQ (show m + 1 ≤ l.length by omega)
       clear hs hz
       by_cases q1 : z.f = (q : Int)
       ·have d1 : (z.f == (q : Int)) = true := beq_iff_eq.2 q1
        have HT := jQ (show (l.take (m + 1)).any (Dd.hitB q) = true by rw [HNX.o]; simp [q1])
        clear q1
        go_wp2_with fail
        go_roundw
        case rel => exact ⟨m + 1, HM1.o, by rw [HT.o], by go_num, HO.o, HB.o⟩
        case measure => have := HM1.o; simp [intOf]; omega
       ·have d1 : (z.f == (q : Int)) = false := beq_eq_false_iff_ne.2 q1
        by_cases q2 : z.t = (q : Int)
        ·have d2 : (z.t == (q : Int)) = true := beq_iff_eq.2 q2
         have HT := jQ (show (l.take (m + 1)).any (Dd.hitB q) = true by rw [HNX.o]; simp [q2])
         clear q1 q2
         go_wp2_with fail
         go_roundw
         case rel => exact ⟨m + 1, HM1.o, by rw [HT.o], by go_num, HO.o, HB.o⟩
         case measure => have := HM1.o; simp [intOf]; omega
        ·have d2 : (z.t == (q : Int)) = false := beq_eq_false_iff_ne.2 q2
         have HT := jQ (show (l.take (m + 1)).any (Dd.hitB q) = false by rw [HNX.o]; simp [q1, q2])
         clear q1 q2
         go_wp2_with fail
         go_roundw
         case rel => exact ⟨m + 1, HM1.o, by rw [HT.o], by go_num, HO.o, HB.o⟩
         case measure => have := HM1.o; simp [intOf]; omega
      ·have HT := jQ (show (l.take (m + 1)).any (Dd.hitB q) = true by rw [HNX.o]; rfl)
       clear hs hz
       go_wp2_with fail
       go_roundw
       case rel => exact ⟨m + 1, by omega, by rw [HT.o], by go_num, HO.o, HB.o⟩
       case measure => simp [intOf]; omega
     ·obtain rfl : m = l.length := by omega
      rw [List.take_length]
      have HST := jQ (show Dd.concA l (N - q) q = (if l.any (Dd.hitB q) = true then [(q : Int)] else []) ++ Dd.concA l (N - (q + 1)) (q + 1) by
       rw [show N - q = (N - (q + 1)) + 1 by omega]
       exact Dd.concA_step l _ q)
      obtain ⟨s, hs⟩ : ∃ s, l.any (Dd.hitB q) = s := ⟨_, rfl⟩
      rw [hs] at HST ⊢
      clear hs
      rcases s with _ | _
      ·have HST := jQ (show Dd.concA l (N - q) q = Dd.concA l (N - (q + 1)) (q + 1) from HST.o)
       go_wp2_with fail
       go_roundw
       case rel => exact ⟨q + 1, L, by omega, by omega, by go_num, by omega, by rw [← HST.o]; exact HL.o, HO.o, HB.o⟩
       case measure => simp [intOf]; omega
      ·have HST := jQ (show Dd.concA l (N - q) q = [(q : Int)] ++ Dd.concA l (N - (q + 1)) (q + 1) from HST.o)
       have hown5 := HO.o
       have lgx : w1.heap.size ≤ wr.heap.size := HB.o.size
       go_wp2_with (at_builtin; refine wpList_appN rfl (.tmp 53) (.tmp 55) 28 rfl 3 i0 _ 1 8 Tryz.underlying28 hi0 hz0 hz1 hz2 rfl (by omega) w1.heap.size u8 L.length _ _ 1 1 wr rfl hown5 rfl rfl (by intro q hq; simp only [List.mem_cons, List.not_mem_nil, or_false] at hq; subst hq; rfl) (by omega) (by unfold maxLen; omega) (by omega) lgx ?_; intro v' W8 hv8 hb8)
       refine ⟨⟨q + 1, L ++ [(q : Int)], by omega, by omega, by go_num, by simp; omega, ?_, ?_, HB.o.trans hb8⟩, ?_⟩
       ·rw [List.append_assoc, ← HST.o]
        exact HL.o
       ·rw [List.length_append, icells_append]
        exact hv8
       ·show N - ((q : Int) + 1).toNat < N - ((q : Int)).toNat
        omega
   ·obtain rfl : q = N := by omega
    have hle : decide ((q : Int) < (q : Int)) = false := decide_eq_false (by omega)
    have hfin : L = Dd.concA l (q - 1) 1 := by
     have := HL.o
     rwa [Nat.sub_self, Dd.concA, List.append_nil] at this
    have HFIN := jQ hfin
    have HR := jQ (show R = (L, 0) by rw [HD.o, ← HFIN.o])
    clear hfin
    go_wp2_with fail
    refine (B2.o _ C2.o).mono ?_
    rintro ee w3 ⟨rfl, hb3⟩
    have C3 := jQ (C2.o.next hb3)
    have HO3 := jQ (own_belowG HO.o hb3)
    clear hb3 f0 f1 f2 f3 c0 c1 c2 c3 c4 c5 c6 c7 c8 c9 c10 c11 c12 C2 HB HO
    obtain ⟨A', c', rfl, hrd, -⟩ := ownB_rd HO3.o (icells_length L)
    have HRD := jQ hrd
    clear hrd HO3 HL
    go_wp2_with fail
    go_ret2
    exact ⟨A', c', by rw [HR.o]; rfl, by rw [HR.o]; exact HRD.o, C3.o.fs.b⟩
 ·have hne : (E != 0) = true := by simp [h0]
  rw [if_pos h0] at B1 hd
  rw [hd]
  dsimp only at B1 ⊢
  clear h0 hF hd hE
  obtain ⟨⟨⟨⟨f0, f1⟩, ⟨f2, f3⟩⟩, ⟨⟨c0, c1⟩, ⟨c2, c3⟩⟩⟩, ⟨⟨⟨c4, c5⟩, ⟨c6, c7⟩⟩, ⟨⟨c8, c9⟩, ⟨c10, ⟨c11, c12⟩⟩⟩⟩⟩ := T0.o _ C0.o
  go_enter Tryz.func27, Tryz.ntmps27
  go_wp2_with fail
  refine (B1.o _ C0.o).mono ?_
  rintro ee w1 ⟨A1, k1, rfl, -, hb1⟩
  have C1 := jQ (C0.o.next hb1)
  clear hb1 f0 f1 f2 f3 c0 c1 c2 c3 c4 c5 c6 c7 c8 c9 c10 c11 c12 C0
  go_wp2_with fail
  go_ret2
  exact ⟨none, 0, rfl, Rd.nil _ _ _ _, C1.o.fs.b⟩
end
end Go.Proofs.YtccikcpcfdjobaaGreatDoor
