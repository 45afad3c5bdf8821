/-
  What the claims of layer deed need of the texts DWrn, DWro, DRdr.
-/
import Derived.Test.YtccikcpcfdjobaaGreatDoorBr07
import Derived.Test.YtccikcpcfdjobaaGreatDoorBr14
import Derived.Test.YtccikcpcfdjobaaGreatDoorBr13
import Derived.Test.YtccikcpcfdjobaaGreatDoorBr25
import Derived.Test.YtccikcpcfdjobaaGreatDoorBz
set_option linter.unusedVariables false
set_option linter.unusedSimpArgs false
set_option maxHeartbeats 8000000
set_option maxRecDepth 100000
namespace Go.Proofs.YtccikcpcfdjobaaGreatDoor
section
open Go.RowKit
theorem Env.low {w w' : World} (h : Env w) (hb : Below 9 w w') : Env w' := by
 have g9 := h.gl
 have v1 : w'.var? Tryz.prog "internal/strconv.uint64pow10" = w.var? Tryz.prog "internal/strconv.uint64pow10" := var_same (g := 1) (by kernel_rfl) (hb.block _ (by omega))
 have v2 : w'.var? Tryz.prog "strconv.ErrSyntax" = w.var? Tryz.prog "strconv.ErrSyntax" := var_same (g := 4) (by kernel_rfl) (hb.block _ (by omega))
 have v3 : w'.var? Tryz.prog "strconv.ErrRange" = w.var? Tryz.prog "strconv.ErrRange" := var_same (g := 5) (by kernel_rfl) (hb.block _ (by omega))
 obtain ⟨m, hm⟩ := h.mx
 exact ⟨h.sn.below hb (by omega), Nat.le_trans g9 hb.size, v1.trans h.pow, ⟨m, (hb.cell (p := ⟨0, 0, none⟩) (by simp)).trans hm⟩, by rw [v2]; exact h.syn, by rw [v3]; exact h.rng⟩
theorem Env.but {X : Nat → Prop} {w w' : World} (h : Env w) (hb : But X w w') (hX : ∀ k, X k → 9 ≤ k) : Env w' := h.low (hb.below hX h.gl)
theorem Env.but1 {b : Nat} {w w' : World} (h : Env w) (hb : But (fun k => k = b) w w') (hX : 9 ≤ b) : Env w' := h.but hb (fun k hk => by omega)
theorem numF_bounds {x : Cs.Bs} {n : Int} (h : Cs.numF x = some n) : -9223372036854775808 ≤ n ∧ n ≤ 9223372036854775807 := by
 unfold Cs.numF at h
 rcases ha : Lib.atoiAll x with v | _ | _
 ·rw [ha] at h
  simp only [Option.some.injEq] at h
  subst h
  exact Lib.atoiAll_bounds ha
 ·rw [ha] at h; cases h
 ·rw [ha] at h; cases h
theorem signed_any (b : Nat) (l : List Cs.Bs) (W : World) (hE : Env W) (h : Wz W b l) :
  Calls Tryz.prog 195 #[.pointer (some ⟨b, 0, none⟩)] W (Wo b W zv (Dd.sgnW l)) := by
 have H0 := jQ (next_any b l W h)
 have HL := jQ h.hl
 have hg := h.g9
 have HE := jQ hE
 rcases l with _ | ⟨x, r⟩
 ·clear h hE
  go_enter Tryz.func195, Tryz.ntmps195
  go_wp2_with fail
  refine H0.o.mono ?_
  intro e w1 he
  obtain ⟨rfl, hb⟩ := he.none_ rfl
  go_wp2_with fail
  exact ⟨rfl, Wo.no rfl hb⟩
 ·have hx := HL.o x List.mem_cons_self
  rcases hn : Cs.numF x with _ | n
  ·have HA := jQ (atoi_no x hn hx)
   have HW := jQ (show Dd.sgnW (x :: r) = none by simp [Dd.sgnW, Dd.sgnF, hn])
   have N0 := jQ (need_no 4)
   simp only [sv_def] at HA
   clear h hE hn hx
   go_enter Tryz.func195, Tryz.ntmps195
   go_wp2_with fail
   refine H0.o.mono ?_
   intro e w1 he
   obtain ⟨rfl, hb, hz⟩ := he.some_ rfl
   have HB := jQ hb
   have HE1 := jQ (HE.o.but1 hb hg)
   clear he hb hz
   simp only [sv_def]
   go_wp2_with fail
   refine (HA.o _ HE1.o).mono ?_
   rintro e w2 ⟨v, t, p, rfl, hb2⟩
   have HB2 := jQ hb2
   clear hb2
   go_wp2_with fail
   refine (N0.o _).mono ?_
   rintro e w3 ⟨rfl, hb3⟩
   go_wp2_with fail
   exact ⟨rfl, Wo.no HW.o ((HB.o.trans (But.of HB2.o)).trans (But.of hb3))⟩
  ·have HA := jQ (atoi_ok x n hn hx)
   have hnb := numF_bounds hn
   have HI := jQ (fun W h => itoa_any n hnb.1 hnb.2 W h)
   have HD := jQ (fun W => dbetween_any (-999999999) n 999999999 W)
   have hs : Dd.sgnF x = if Lib.itoa n = x ∧ -999999999 ≤ n ∧ n ≤ 999999999 then some n else none := by simp [Dd.sgnF, hn]
   simp only [sv_def] at HA HI
   obtain ⟨T, hT⟩ : ∃ T, Lib.itoa n = T := ⟨_, rfl⟩
   rw [hT] at HI hs
   clear hT hnb hn h hE
   rcases hq : (T == x) with _ | _
   ·have HW := jQ (show Dd.sgnW (x :: r) = none by simp [Dd.sgnW, hs, show ¬ T = x by simpa using hq])
    have N0 := jQ (need_no 4)
    clear hs hx
    go_enter Tryz.func195, Tryz.ntmps195
    go_wp2_with fail
    refine H0.o.mono ?_
    intro e w1 he
    obtain ⟨rfl, hb, hz⟩ := he.some_ rfl
    have HB := jQ hb
    have HE1 := jQ (HE.o.but1 hb hg)
    clear he hb hz
    simp only [sv_def]
    go_wp2_with fail
    refine (HA.o _).mono ?_
    rintro e w2 ⟨rfl, hb2⟩
    have HB2 := jQ hb2
    have HE2 := jQ (HE1.o.step hb2)
    clear hb2
    go_wp2_with fail
    refine (HI.o _ HE2.o).mono ?_
    rintro e w3 ⟨rfl, hb3⟩
    have HB3 := jQ hb3
    clear hb3
    go_wp2_with fail
    refine (N0.o _).mono ?_
    rintro e w4 ⟨rfl, hb4⟩
    go_wp2_with fail
    exact ⟨rfl, Wo.no HW.o (((HB.o.trans (But.of HB2.o)).trans (But.of HB3.o)).trans (But.of hb4))⟩
   ·rcases hd : decide (-999999999 ≤ n ∧ n ≤ 999999999) with _ | _
    ·have HW := jQ (show Dd.sgnW (x :: r) = none by simp [Dd.sgnW, hs, of_decide_eq_false hd])
     have N0 := jQ (need_no 4)
     have HD' := jQ hd
     clear hs hx hd
     go_enter Tryz.func195, Tryz.ntmps195
     go_wp2_with fail
     refine H0.o.mono ?_
     intro e w1 he
     obtain ⟨rfl, hb, hz⟩ := he.some_ rfl
     have HB := jQ hb
     have HE1 := jQ (HE.o.but1 hb hg)
     clear he hb hz
     simp only [sv_def]
     go_wp2_with fail
     refine (HA.o _).mono ?_
     rintro e w2 ⟨rfl, hb2⟩
     have HB2 := jQ hb2
     have HE2 := jQ (HE1.o.step hb2)
     clear hb2
     go_wp2_with fail
     refine (HI.o _ HE2.o).mono ?_
     rintro e w3 ⟨rfl, hb3⟩
     have HB3 := jQ hb3
     clear hb3
     go_wp2_with fail
     refine (HD.o _).mono ?_
     rw [HD'.o]
     rintro e w' ⟨rfl, rfl⟩
     go_wp2_with fail
     refine (N0.o _).mono ?_
     rintro e w4 ⟨rfl, hb4⟩
     go_wp2_with fail
     exact ⟨rfl, Wo.no HW.o (((HB.o.trans (But.of HB2.o)).trans (But.of HB3.o)).trans (But.of hb4))⟩
    ·have HW := jQ (show Dd.sgnW (x :: r) = some (n, r) by simp [Dd.sgnW, hs, of_decide_eq_true hd, show T = x by simpa using hq])
     have N0 := jQ (need_yes 4)
     have HD' := jQ hd
     clear hs hx hd
     go_enter Tryz.func195, Tryz.ntmps195
     go_wp2_with fail
     refine H0.o.mono ?_
     intro e w1 he
     obtain ⟨rfl, hb, hz⟩ := he.some_ rfl
     have HB := jQ hb
     have HZ := jQ hz
     have HE1 := jQ (HE.o.but1 hb hg)
     clear he hb hz
     simp only [sv_def]
     go_wp2_with fail
     refine (HA.o _).mono ?_
     rintro e w2 ⟨rfl, hb2⟩
     have HB2 := jQ hb2
     have HE2 := jQ (HE1.o.step hb2)
     clear hb2
     go_wp2_with fail
     refine (HI.o _ HE2.o).mono ?_
     rintro e w3 ⟨rfl, hb3⟩
     have HB3 := jQ hb3
     clear hb3
     go_wp2_with fail
     refine (HD.o _).mono ?_
     rw [HD'.o]
     rintro e w' ⟨rfl, rfl⟩
     go_wp2_with fail
     refine (N0.o _).mono ?_
     rintro e w4 ⟨rfl, hb4⟩
     have HB4 := jQ hb4
     clear hb4
     go_wp2_with fail
     go_ret
     exact Wo.yes (val := zv) HW.o (((HB.o.trans (But.of HB2.o)).trans (But.of HB3.o)).trans (But.of HB4.o)) (((HZ.o.below HB2.o).below HB3.o).below HB4.o)
theorem number_any (b : Nat) (l : List Cs.Bs) (W : World) (hE : Env W) (h : Wz W b l) :
  Calls Tryz.prog 194 #[.pointer (some ⟨b, 0, none⟩)] W (Wo b W zv (Dd.nnW l)) := by
 have H0 := jQ (signed_any b l W hE h)
 rcases hs : Dd.sgnW l with _ | ⟨n, r⟩
 ·have HW := jQ (show Dd.nnW l = none by
   rcases l with _ | ⟨x, r⟩
   ·rfl
   ·rw [Dd.nnW, Dd.nnF]
    rw [Dd.sgnW] at hs
    rcases hx : Dd.sgnF x with _ | n
    ·rfl
    ·rw [hx] at hs; cases hs)
  clear h hE
  have HS := jQ hs
  clear hs
  go_enter Tryz.func194, Tryz.ntmps194
  go_wp2_with fail
  refine H0.o.mono ?_
  intro e w1 he
  obtain ⟨rfl, hb⟩ := he.none_ HS.o
  go_wp2_with fail
  exact ⟨rfl, Wo.no HW.o hb⟩
 ·have HW := jQ (show Dd.nnW l = if 0 ≤ n then some (n, r) else none by
   rcases l with _ | ⟨x, r'⟩
   ·cases hs
   ·rw [Dd.nnW, Dd.nnF]
    rw [Dd.sgnW] at hs
    rcases hx : Dd.sgnF x with _ | m
    ·rw [hx] at hs; cases hs
    ·rw [hx] at hs
     simp only [Option.some.injEq, Prod.mk.injEq] at hs
     obtain ⟨rfl, rfl⟩ := hs
     by_cases h0 : 0 ≤ m
     ·simp [h0]
     ·simp [h0])
  clear h hE
  have HS := jQ hs
  clear hs
  by_cases h0 : 0 ≤ n
  ·have g0 : decide (n ≥ 0) = true := decide_eq_true h0
   have HW := jQ (HW.o.trans (if_pos h0))
   have N0 := jQ (need_yes 4)
   clear h0
   go_enter Tryz.func194, Tryz.ntmps194
   go_wp2_with fail
   refine H0.o.mono ?_
   intro e w1 he
   obtain ⟨rfl, hb, hz⟩ := he.some_ HS.o
   have HB := jQ hb
   have HZ := jQ hz
   clear he hb hz
   simp only [zv]
   go_wp2_with fail
   refine (N0.o _).mono ?_
   rintro e w3 ⟨rfl, hb3⟩
   have HB3 := jQ hb3
   clear hb3
   go_wp2_with fail
   go_ret
   exact Wo.yes (val := zv) HW.o (HB.o.trans (But.of HB3.o)) (HZ.o.below HB3.o)
  ·have g0 : decide (n ≥ 0) = false := decide_eq_false h0
   have HW := jQ (HW.o.trans (if_neg h0))
   have N0 := jQ (need_no 4)
   clear h0
   go_enter Tryz.func194, Tryz.ntmps194
   go_wp2_with fail
   refine H0.o.mono ?_
   intro e w1 he
   obtain ⟨rfl, hb, hz⟩ := he.some_ HS.o
   have HB := jQ hb
   clear he hb hz
   simp only [zv]
   go_wp2_with fail
   refine (N0.o _).mono ?_
   rintro e w3 ⟨rfl, hb3⟩
   go_wp2_with fail
   exact ⟨rfl, Wo.no HW.o (HB.o.trans (But.of hb3))⟩
theorem fixed_any (b : Nat) (k : Cs.Bs) (l : List Cs.Bs) (W : World) (h : Wz W b l) :
  Calls Tryz.prog 204 #[.pointer (some ⟨b, 0, none⟩), .string ⟨k.toArray⟩] W (Wo b W uv (Dd.fixW k l)) := by
 have H0 := jQ (next_any b l W h)
 rcases l with _ | ⟨x, r⟩
 ·clear h
  go_enter Tryz.func204, Tryz.ntmps204
  go_wp2_with fail
  refine H0.o.mono ?_
  intro e w1 he
  obtain ⟨rfl, hb⟩ := he.none_ rfl
  go_wp2_with fail
  exact ⟨rfl, Wo.no rfl hb⟩
 ·clear h
  rcases hq : (x == k) with _ | _
  ·have HW := jQ (show Dd.fixW k (x :: r) = none by simp [Dd.fixW, show ¬ x = k by simpa using hq])
   have N0 := jQ (need_no 4)
   go_enter Tryz.func204, Tryz.ntmps204
   go_wp2_with fail
   refine H0.o.mono ?_
   intro e w1 he
   obtain ⟨rfl, hb, hz⟩ := he.some_ rfl
   have HB := jQ hb
   clear he hb hz
   simp only [sv_def]
   go_wp2_with fail
   refine (N0.o _).mono ?_
   rintro e w3 ⟨rfl, hb3⟩
   go_wp2_with fail
   exact ⟨rfl, Wo.no HW.o (HB.o.trans (But.of hb3))⟩
  ·have HW := jQ (show Dd.fixW k (x :: r) = some ((), r) by simp [Dd.fixW, show x = k by simpa using hq])
   have N0 := jQ (need_yes 4)
   go_enter Tryz.func204, Tryz.ntmps204
   go_wp2_with fail
   refine H0.o.mono ?_
   intro e w1 he
   obtain ⟨rfl, hb, hz⟩ := he.some_ rfl
   have HB := jQ hb
   have HZ := jQ hz
   clear he hb hz
   simp only [sv_def]
   go_wp2_with fail
   refine (N0.o _).mono ?_
   rintro e w3 ⟨rfl, hb3⟩
   have HB3 := jQ hb3
   clear hb3
   go_wp2_with fail
   go_end0
   exact Wo.yes (val := uv) HW.o (HB.o.trans (But.of HB3.o)) (HZ.o.below HB3.o)
theorem wend_any (b : Nat) (l : List Cs.Bs) (W : World) (h : Wz W b l) :
  Calls Tryz.prog 156 #[.pointer (some ⟨b, 0, none⟩)] W (Wo b W uv (Dd.endW l)) := by
 obtain ⟨A, c, hK, hR, hc⟩ := h.ex
 have c0 := (hK.cell 0).trans rfl
 have f0 := hK.frozen 0
 have l0 := hK.lt
 have HZ := jQ h
 rcases l with _ | ⟨x, r⟩
 ·have N0 := jQ (need_yes 4)
  clear h hK hR
  go_enter Tryz.func156, Tryz.ntmps156
  go_wp2_with (fail)
  refine (N0.o _).mono ?_
  rintro e w1 ⟨rfl, hb⟩
  have HB := jQ hb
  clear hb
  go_wp2_with (fail)
  go_end0
  exact Wo.yes (val := uv) rfl (But.of HB.o) (HZ.o.below HB.o)
 ·have N0 := jQ (need_no 4)
  simp only [List.length_cons] at c0
  have g0 : (((r.length + 1 : Nat) : Int) == 0) = false := by simp; omega
  clear h hK hR
  go_enter Tryz.func156, Tryz.ntmps156
  go_wp2_with (fail)
  refine (N0.o _).mono ?_
  rintro e w1 ⟨rfl, hb⟩
  go_wp2_with (fail)
  exact ⟨rfl, Wo.no rfl (But.of hb)⟩
end

section
open Go.RowKit
theorem index_wds (A : Option Addr) (c : Nat) (l : List Cs.Bs) (k : Cs.Bs) (w : World) (hR : Rd w w.heap.size 1 A l.length (wcells l)) (hl : l.length ≤ 1000000) :
  Calls Tryz.prog 283 #[.slice A l.length c, .string ⟨k.toArray⟩] w fun e w' => e = .returned (.int .i64 (Dd.idx l k)) ∧ Below w.heap.size w w' := by
 have HR := jQ hR
 unfold Dd.idx
 clear hR
 go_enter Tryz.func283, Tryz.ntmps283
 go_wp2_with fail
 go_loopw [8] (fun I wr => ∃ j : Nat, j ≤ l.length ∧ I = .int .i64 j ∧ (∀ i (h : i < l.length), i < j → decide (l[i] = k) = false) ∧ Below w.heap.size w wr) (fun I _ => l.length - (intOf I).toNat)
 case atStart => exact ⟨0, Nat.zero_le _, rfl, fun j _ h => absurd h (Nat.not_lt_zero j), Below.refl _ _⟩
 case round =>
  obtain ⟨j, hj, rfl, hall, hB⟩ := hrel
  have HA := jQ hall
  have HB := jQ hB
  clear hall
  by_cases hlt : j < l.length
  ·obtain ⟨b, off, rfl, hb, hc⟩ := (HR.o.below hB (Nat.le_refl _)).text hlt
   obtain ⟨x, hx⟩ : ∃ x, l[j] = x := ⟨_, rfl⟩
   rw [hx] at hc
   clear hB
   rcases hp : (k == x) with _ | _
   ·have HP := jQ (show ¬ x = k by intro h; rw [h] at hp; simp at hp)
    have HX := jQ hx
    clear hx
    go_wp2_with fail
    go_roundw
    case rel =>
     refine ⟨j + 1, by omega, by go_num, fun i h hi => ?_, HB.o⟩
     by_cases e : i = j
     ·subst e
      rw [HX.o]
      exact decide_eq_false HP.o
     ·exact HA.o i h (by omega)
    case measure => simp [intOf]; omega
   ·have HP := jQ (show x = k from (beq_iff_eq.1 hp).symm)
    have HRES := jQ (show Dd.idxP (fun x => decide (x = k)) l 0 = j from Dd.idxP_at hlt (by rw [hx]; exact decide_eq_true HP.o) (fun i hi => HA.o i (by omega) hi))
    clear hx
    go_wp2_with fail
    go_ret
    exact ⟨ret_int HRES.o.symm, HB.o⟩
  ·have HRES := jQ (show Dd.idxP (fun x => decide (x = k)) l 0 = -1 from Dd.idxP_no (fun i h => HA.o i h (by omega)))
   obtain rfl : j = l.length := by omega
   clear hB
   go_wp2_with fail
   go_ret
   exact ⟨ret_int HRES.o.symm, HB.o⟩
theorem Rd.drop_text {w : World} {B b o n : Nat} {l : List Cs.Bs} (h : Rd w B 1 (some ⟨b, o, none⟩) l.length (wcells l)) (hn : n ≤ l.length) : Rd w B 1 (some ⟨b, o + n, none⟩) (l.drop n).length (wcells (l.drop n)) := by
 refine ⟨by simp [wcells], fun hp => ?_⟩
 have hp' : n < l.length := by simp at hp; omega
 obtain ⟨b', o', e, hb, hc⟩ := h.2 (by omega)
 obtain ⟨rfl, rfl⟩ : b = b' ∧ o = o' := by simpa using e
 refine ⟨_, _, rfl, hb, fun j hj => ?_⟩
 rw [show o + n + j = o + (n + j) by omega, hc (n + j) (by simp at hj; omega)]
 simp [wcells]
theorem wsum_le {l : List Cs.Bs} {m : Nat} (h : Dd.wsum l ≤ m) (n : Nat) : Dd.wsum (l.drop n) ≤ m := Nat.le_trans (Dd.wsum_drop l n) h
theorem upTo_any (b : Nat) (k : Cs.Bs) (l : List Cs.Bs) (W : World) (h : Wz W b l) :
  Calls Tryz.prog 265 #[.pointer (some ⟨b, 0, none⟩), .string ⟨k.toArray⟩] W (Wo b W sv (Dd.upTo k l)) := by
 obtain ⟨A, c, hK, hR, hc⟩ := h.ex
 have HW := jQ (show Dd.upTo k l = if Dd.idx l k < 0 then none else some (Lib.join (l.take (Dd.idx l k).toNat) [32], l.drop ((Dd.idx l k).toNat + 1)) from rfl)
 have HI := jQ (index_wds A c l k W (hR.more (Nat.le_of_lt hK.lt)) h.hn)
 have hrg := Dd.idxP_range (fun x => decide (x = k)) l
 have hg := h.g9
 have HS := jQ h.hs
 have hd : Dd.idx l k = Dd.idxP (fun x => decide (x = k)) l 0 := rfl
 rw [← hd] at hrg
 clear hd
 obtain ⟨i, hi⟩ : ∃ i, Dd.idx l k = i := ⟨_, rfl⟩
 rw [hi] at HW HI hrg
 have c0 := (hK.cell 0).trans rfl
 have f0 := hK.frozen 0
 have l0 := hK.lt
 have HK := jQ hK
 have HR := jQ hR
 clear hi hK hR h
 by_cases h0 : i < 0
 ·obtain rfl : i = -1 := by omega
  have HW := jQ (HW.o.trans (if_pos h0))
  have N0 := jQ (need_no 4)
  clear h0
  go_enter Tryz.func265, Tryz.ntmps265
  go_wp2_with fail
  refine HI.o.mono ?_
  rintro e w1 ⟨rfl, hb1⟩
  have HB1 := jQ hb1
  clear hb1
  go_wp2_with fail
  refine (N0.o _).mono ?_
  rintro e w2 ⟨rfl, hb2⟩
  go_wp2_with fail
  exact ⟨rfl, Wo.no HW.o ((But.of HB1.o).trans (But.of hb2))⟩
 ·obtain ⟨n, rfl⟩ : ∃ n : Nat, i = n := ⟨i.toNat, by omega⟩
  have hn : n < l.length := by omega
  rw [Int.toNat_natCast] at HW
  have HW := jQ (HW.o.trans (if_neg h0))
  have g0 : decide ((n : Int) ≥ 0) = true := decide_eq_true (by omega)
  have N0 := jQ (need_yes 4)
  obtain ⟨o, off, rfl, ho, _⟩ := HR.o.text (k := 0) (by omega)
  have hws := HS.o
  have hll := Dd.wsum_len l
  have hP1 : (l.take n).length = n := by simp; omega
  have HJ := jQ (fun W' (hb : Below W.heap.size W W') => join_any (some ⟨o, off, none⟩) c (l.take n) W' (((HR.o.below hb (Nat.le_of_lt HK.o.lt)).more (Nat.le_trans (Nat.le_of_lt HK.o.lt) hb.size)).takeTx (Nat.le_of_lt hn)) (by rw [hP1]; omega) (by rw [hP1]; omega)
   (fun x hx => Nat.le_trans (Dd.wsum_mem l x (List.mem_of_mem_take hx)) hws))
  rw [hP1] at HJ
  obtain ⟨T, hT⟩ : ∃ T, Lib.join (l.take n) [32] = T := ⟨_, rfl⟩
  rw [hT] at HJ HW
  have hwr : IntKind.i64.wrap ((n : Int) + 1) = ((n + 1 : Nat) : Int) := IntWalk.i64_in _ (by omega)
  have hlt1 : n + 1 ≤ l.length := hn
  simp only [sv_def] at HJ
  have HC := jQ hc
  clear hP1 hT h0 hws
  go_enter Tryz.func265, Tryz.ntmps265
  go_wp2_with fail
  refine HI.o.mono ?_
  rintro e w1 ⟨rfl, hb1⟩
  have HB1 := jQ hb1
  clear hb1
  go_wp2_with fail
  refine (N0.o _).mono ?_
  rintro e w2 ⟨rfl, hb2⟩
  have HB2 := jQ (HB1.o.trans (hb2.mono HB1.o.size))
  have hk2 := HK.o.below HB2.o HK.o.lt
  have c0 := (hk2.cell 0).trans rfl
  have f0 := hk2.frozen 0
  have l0 := hk2.lt
  clear hb2 hk2
  go_wp2_with fail
  refine (HJ.o _ HB2.o).mono ?_
  rintro e w3 ⟨rfl, hb3⟩
  have HB3 := jQ (HB2.o.trans (hb3.mono HB2.o.size))
  have hk3 := HK.o.below HB3.o HK.o.lt
  have c0 := (hk3.cell 0).trans rfl
  have f0 := hk3.frozen 0
  have l0 := hk3.lt
  clear hb3 hk3
  go_wp2_with fail
  case inl =>
   have hln : l.length = n + 1 := by
    have := HC.o
    omega
   have hdr : l.drop (n + 1) = [] := List.drop_eq_nil_of_le (by omega)
   go_ret
   refine Wo.yes (val := sv) HW.o ((But.of (X := fun k => k = b) HB3.o).set (p := ⟨b, 0, none⟩) rfl _) ?_
   have hk3 := (HK.o.below HB3.o HK.o.lt).set 0 (.slice (some ⟨o, off, none⟩) (l.length - (n + 1)) 0)
   rw [hdr]
   rw [show l.length - (n + 1) = 0 by omega] at hk3 ⊢
   exact ⟨⟨_, _, hk3, Rd.nil _ _ _ _, Nat.le_refl _⟩, Nat.zero_le _, hg⟩
  case inr =>
   have HDR := jQ (((HR.o.below HB3.o (Nat.le_of_lt HK.o.lt)).drop_text hlt1).setc (p := ⟨b, 0, none⟩) (Nat.le_refl b) (.slice (some ⟨o, off + (n + 1), none⟩) (l.length - (n + 1)) (c - (n + 1))))
   have HSD := jQ (wsum_le HS.o (n + 1))
   go_ret
   refine Wo.yes (val := sv) HW.o ((But.of (X := fun k => k = b) HB3.o).set (p := ⟨b, 0, none⟩) rfl _) ?_
   have hk3 := (HK.o.below HB3.o HK.o.lt).set 0 (.slice (some ⟨o, off + (n + 1), none⟩) (l.length - (n + 1)) (c - (n + 1)))
   have hdl : (l.drop (n + 1)).length = l.length - (n + 1) := List.length_drop
   refine ⟨⟨_, _, by rw [hdl]; exact hk3, HDR.o, by rw [hdl]; have := HC.o; omega⟩, HSD.o, hg⟩
theorem length_any (b : Nat) (k : Cs.Bs) (l : List Cs.Bs) (W : World) (hE : Env W) (h : Wz W b l) :
  Calls Tryz.prog 236 #[.pointer (some ⟨b, 0, none⟩), .string ⟨k.toArray⟩] W (Wo b W zv (Dd.lenW k l)) := by
 have H0 := jQ (upTo_any b k l W h)
 have hg := h.g9
 have HE := jQ hE
 have hup : Dd.upTo k l = if Dd.idx l k < 0 then none else some (Lib.join (l.take (Dd.idx l k).toNat) [32], l.drop ((Dd.idx l k).toNat + 1)) := rfl
 have hsh : ∀ p, Dd.upTo k l = some p → p.1.length ≤ 1000000 := by
  intro p hp
  rw [hup] at hp
  split at hp
  ·cases hp
  ·simp only [Option.some.injEq] at hp
   subst hp
   exact Nat.le_trans (Nat.le_trans (Dd.wsum_join _) (Dd.wsum_take _ _)) h.hs
 rcases hs : Dd.upTo k l with _ | ⟨T, r⟩
 ·have HW := jQ (show Dd.lenW k l = none by simp [Dd.lenW, hs])
  have HS := jQ hs
  clear h hE hup hsh hs
  go_enter Tryz.func236, Tryz.ntmps236
  go_wp2_with fail
  refine H0.o.mono ?_
  intro e w1 he
  obtain ⟨rfl, hb⟩ := he.none_ HS.o
  go_wp2_with fail
  exact ⟨rfl, Wo.no HW.o hb⟩
 ·have hT := hsh _ hs
  have HW := jQ (show Dd.lenW k l = if (Cs.lnkF T).2 = 0 ∧ 1 ≤ (Cs.lnkF T).1 ∧ (Cs.lnkF T).1 ≤ 100000 then some ((Cs.lnkF T).1, r) else none by simp [Dd.lenW, hs])
  have HL := jQ (fun W h => Links_any T hT W h)
  have HS := jQ hs
  obtain ⟨R, hR⟩ : ∃ R, Cs.lnkF T = R := ⟨_, rfl⟩
  rw [hR] at HW HL
  obtain ⟨n, er⟩ := R
  dsimp only at HW HL
  have HD := jQ (fun W => dbetween_any 1 n 100000 W)
  simp only [sv_def] at HL
  clear h hE hup hsh hs hR
  by_cases he0 : er = 0
  ·subst he0
   rcases hd : decide (1 ≤ n ∧ n ≤ 100000) with _ | _
   ·have HX := jQ (HW.o.trans (if_neg (fun h => of_decide_eq_false hd h.2)))
    have N0 := jQ (need_no 4)
    have HD' := jQ hd
    clear hd
    go_enter Tryz.func236, Tryz.ntmps236
    go_wp2_with fail
    refine H0.o.mono ?_
    intro e w1 he
    obtain ⟨rfl, hb, hz⟩ := he.some_ HS.o
    have HB := jQ hb
    have HE1 := jQ (HE.o.but1 hb hg)
    clear he hb hz
    simp only [sv_def]
    go_wp2_with fail
    refine (HL.o _ HE1.o).mono ?_
    rintro e w2 ⟨rfl, hb2⟩
    have HB2 := jQ hb2
    clear hb2
    go_wp2_with fail
    refine (HD.o _).mono ?_
    rw [HD'.o]
    rintro e w' ⟨rfl, rfl⟩
    go_wp2_with fail
    refine (N0.o _).mono ?_
    rintro e w4 ⟨rfl, hb4⟩
    go_wp2_with fail
    exact ⟨rfl, Wo.no HX.o ((HB.o.trans (But.of HB2.o)).trans (But.of hb4))⟩
   ·have HX := jQ (HW.o.trans (if_pos ⟨rfl, of_decide_eq_true hd⟩))
    have N0 := jQ (need_yes 4)
    have HD' := jQ hd
    clear hd
    go_enter Tryz.func236, Tryz.ntmps236
    go_wp2_with fail
    refine H0.o.mono ?_
    intro e w1 he
    obtain ⟨rfl, hb, hz⟩ := he.some_ HS.o
    have HB := jQ hb
    have HZ := jQ hz
    have HE1 := jQ (HE.o.but1 hb hg)
    clear he hb hz
    simp only [sv_def]
    go_wp2_with fail
    refine (HL.o _ HE1.o).mono ?_
    rintro e w2 ⟨rfl, hb2⟩
    have HB2 := jQ hb2
    clear hb2
    go_wp2_with fail
    refine (HD.o _).mono ?_
    rw [HD'.o]
    rintro e w' ⟨rfl, rfl⟩
    go_wp2_with fail
    refine (N0.o _).mono ?_
    rintro e w4 ⟨rfl, hb4⟩
    have HB4 := jQ hb4
    clear hb4
    go_wp2_with fail
    go_ret
    exact Wo.yes (val := zv) HX.o ((HB.o.trans (But.of HB2.o)).trans (But.of HB4.o)) ((HZ.o.below HB2.o).below HB4.o)
  ·have HX := jQ (HW.o.trans (if_neg (fun h => he0 h.1)))
   have N0 := jQ (need_no 4)
   have he1 : (er == 0) = false := by simpa using he0
   clear he0
   go_enter Tryz.func236, Tryz.ntmps236
   go_wp2_with fail
   refine H0.o.mono ?_
   intro e w1 he
   obtain ⟨rfl, hb, hz⟩ := he.some_ HS.o
   have HB := jQ hb
   have HE1 := jQ (HE.o.but1 hb hg)
   clear he hb hz
   simp only [sv_def]
   go_wp2_with fail
   refine (HL.o _ HE1.o).mono ?_
   rintro e w2 ⟨rfl, hb2⟩
   have HB2 := jQ hb2
   clear hb2
   go_wp2_with fail
   refine (N0.o _).mono ?_
   rintro e w4 ⟨rfl, hb4⟩
   go_wp2_with fail
   exact ⟨rfl, Wo.no HX.o ((HB.o.trans (But.of HB2.o)).trans (But.of hb4))⟩
theorem bearing_any (b : Nat) (k : Cs.Bs) (l : List Cs.Bs) (W : World) (hE : Env W) (h : Wz W b l) :
  Calls Tryz.prog 237 #[.pointer (some ⟨b, 0, none⟩), .string ⟨k.toArray⟩] W (Wo b W zv (Dd.berW k l)) := by
 have H0 := jQ (upTo_any b k l W h)
 have hg := h.g9
 have HE := jQ hE
 have hup : Dd.upTo k l = if Dd.idx l k < 0 then none else some (Lib.join (l.take (Dd.idx l k).toNat) [32], l.drop ((Dd.idx l k).toNat + 1)) := rfl
 have hsh : ∀ p, Dd.upTo k l = some p → p.1.length ≤ 1000000 := by
  intro p hp
  rw [hup] at hp
  split at hp
  ·cases hp
  ·simp only [Option.some.injEq] at hp
   subst hp
   exact Nat.le_trans (Nat.le_trans (Dd.wsum_join _) (Dd.wsum_take _ _)) h.hs
 rcases hs : Dd.upTo k l with _ | ⟨T, r⟩
 ·have HW := jQ (show Dd.berW k l = none by simp [Dd.berW, hs])
  have HS := jQ hs
  clear h hE hup hsh hs
  go_enter Tryz.func237, Tryz.ntmps237
  go_wp2_with fail
  refine H0.o.mono ?_
  intro e w1 he
  obtain ⟨rfl, hb⟩ := he.none_ HS.o
  go_wp2_with fail
  exact ⟨rfl, Wo.no HW.o hb⟩
 ·have hT := hsh _ hs
  have HW := jQ (show Dd.berW k l = if (Cs.berF T).2 = 0 then some ((Cs.berF T).1, r) else none by simp [Dd.berW, hs])
  have HL := jQ (fun W h => Bearing_any T hT W h)
  have HS := jQ hs
  obtain ⟨R, hR⟩ : ∃ R, Cs.berF T = R := ⟨_, rfl⟩
  rw [hR] at HW HL
  obtain ⟨n, er⟩ := R
  dsimp only at HW HL
  simp only [sv_def] at HL
  clear h hE hup hsh hs hR
  by_cases he0 : er = 0
  ·subst he0
   have HX := jQ (HW.o.trans (if_pos rfl))
   have N0 := jQ (need_yes 4)
   go_enter Tryz.func237, Tryz.ntmps237
   go_wp2_with fail
   refine H0.o.mono ?_
   intro e w1 he
   obtain ⟨rfl, hb, hz⟩ := he.some_ HS.o
   have HB := jQ hb
   have HZ := jQ hz
   have HE1 := jQ (HE.o.but1 hb hg)
   clear he hb hz
   simp only [sv_def]
   go_wp2_with fail
   refine (HL.o _ HE1.o).mono ?_
   rintro e w2 ⟨rfl, hb2⟩
   have HB2 := jQ hb2
   clear hb2
   go_wp2_with fail
   refine (N0.o _).mono ?_
   rintro e w4 ⟨rfl, hb4⟩
   have HB4 := jQ hb4
   clear hb4
   go_wp2_with fail
   go_ret
   exact Wo.yes (val := zv) HX.o ((HB.o.trans (But.of HB2.o)).trans (But.of HB4.o)) ((HZ.o.below HB2.o).below HB4.o)
  ·have HX := jQ (HW.o.trans (if_neg he0))
   have N0 := jQ (need_no 4)
   have he1 : (er == 0) = false := by simpa using he0
   clear he0
   go_enter Tryz.func237, Tryz.ntmps237
   go_wp2_with fail
   refine H0.o.mono ?_
   intro e w1 he
   obtain ⟨rfl, hb, hz⟩ := he.some_ HS.o
   have HB := jQ hb
   have HE1 := jQ (HE.o.but1 hb hg)
   clear he hb hz
   simp only [sv_def]
   go_wp2_with fail
   refine (HL.o _ HE1.o).mono ?_
   rintro e w2 ⟨rfl, hb2⟩
   have HB2 := jQ hb2
   clear hb2
   go_wp2_with fail
   refine (N0.o _).mono ?_
   rintro e w4 ⟨rfl, hb4⟩
   go_wp2_with fail
   exact ⟨rfl, Wo.no HX.o ((HB.o.trans (But.of HB2.o)).trans (But.of hb4))⟩
end

section
open Go.RowKit
def drcells (d : Dd.Dr) : List Value := [.string ⟨d.l.toArray⟩, .string ⟨d.o.toArray⟩, .string ⟨d.a.toArray⟩, .string ⟨d.b.toArray⟩, .int .u8 d.c.k, .int .i64 d.c.l, .int .i64 d.c.o, .int .i64 d.c.a, .int .i64 d.c.b, .int .i64 d.c.s, .int .i64 d.c.e, .int .i64 d.c.c.b, .int .i64 d.c.c.n, .int .i64 d.c.c.l, .int .i64 d.c.c.y, .int .i64 d.c.c.w, .int .i64 d.c.c.s]
def drval (d : Dd.Dr) : Value := .agg (drcells d).toArray
def zero17 : Array Value := #[.string ⟨#[]⟩, .string ⟨#[]⟩, .string ⟨#[]⟩, .string ⟨#[]⟩, .int .u8 0, .int .i64 0, .int .i64 0, .int .i64 0, .int .i64 0, .int .i64 0, .int .i64 0, .int .i64 0, .int .i64 0, .int .i64 0, .int .i64 0, .int .i64 0, .int .i64 0]
theorem stone_any (b : Nat) (l : List Cs.Bs) (W : World) (hE : Env W) (h : Wz W b l) :
  Calls Tryz.prog 198 #[.pointer (some ⟨b, 0, none⟩)] W (Wo b W drval (Dd.stoneM l)) := by
 have hg := h.g9
 have hbl := h.lt
 have kg := Bk.new W 130 zero17
 have hB0 := (Below.refl W.heap.size W).alloc (Nat.le_refl _) (.cells zero17 130)
 have hz0 := h.below hB0
 have HE0 := jQ (hE.step hB0)
 simp only [zero17] at kg hB0 hz0 HE0
 have HB0 := jQ (But.of (X := fun k => k = b) hB0)
 have HZ0 := jQ hz0
 have HK0 := jQ kg
 have hne : ¬ W.heap.size = b := by omega
 have HBL := jQ hbl
 clear h hE kg hB0 hz0 hbl
 go_enter Tryz.func198, Tryz.ntmps198
 go_wp2_with fail
 rcases hs : Dd.nameW l with _ | ⟨a0, l0⟩
 ·have HW := jQ (show Dd.stoneM l = none by simp [Dd.stoneM, hs])
  have HX := jQ hs
  clear hs
  refine (wname_any b l _ HZ0.o).mono ?_
  intro e w1 he
  obtain ⟨rfl, hb⟩ := he.none_ HX.o
  clear he
  go_wp2_with fail
  exact ⟨rfl, Wo.no HW.o (HB0.o.trans hb)⟩
 have HS0 := jQ hs
 clear hs
 refine (wname_any b l _ HZ0.o).mono ?_
 intro e w1 he
 obtain ⟨rfl, hb, hz⟩ := he.some_ HS0.o
 have HB1 := jQ (HB0.o.trans hb)
 have HZ1 := jQ hz
 have HE1 := jQ (HE0.o.but1 hb hg)
 have HK1 := jQ (hb.bk HK0.o hne)
 clear he hb hz
 simp only [sv_def]
 go_wp2_with fail
 rcases hs : Dd.nameW l0 with _ | ⟨a1, l1⟩
 ·have HW := jQ (show Dd.stoneM l = none by simp [Dd.stoneM, HS0.o, hs])
  have HX := jQ hs
  clear hs
  refine (wname_any b l0 _ HZ1.o).mono ?_
  intro e w1 he
  obtain ⟨rfl, hb⟩ := he.none_ HX.o
  clear he
  go_wp2_with fail
  exact ⟨rfl, Wo.no HW.o (HB1.o.trans hb)⟩
 have HS1 := jQ hs
 clear hs
 refine (wname_any b l0 _ HZ1.o).mono ?_
 intro e w2 he
 obtain ⟨rfl, hb, hz⟩ := he.some_ HS1.o
 have HB2 := jQ (HB1.o.trans hb)
 have HZ2 := jQ hz
 have HE2 := jQ (HE1.o.but1 hb hg)
 have HK2 := jQ (hb.bk HK1.o hne)
 clear he hb hz
 simp only [sv_def]
 go_wp2_with fail
 rcases hs : Dd.nnW l1 with _ | ⟨a2, l2⟩
 ·have HW := jQ (show Dd.stoneM l = none by simp [Dd.stoneM, HS0.o, HS1.o, hs])
  have HX := jQ hs
  clear hs
  refine (number_any b l1 _ (HE2.o) HZ2.o).mono ?_
  intro e w1 he
  obtain ⟨rfl, hb⟩ := he.none_ HX.o
  clear he
  go_wp2_with fail
  exact ⟨rfl, Wo.no HW.o (HB2.o.trans hb)⟩
 have HS2 := jQ hs
 clear hs
 refine (number_any b l1 _ (HE2.o) HZ2.o).mono ?_
 intro e w3 he
 obtain ⟨rfl, hb, hz⟩ := he.some_ HS2.o
 have HB3 := jQ (HB2.o.trans hb)
 have HZ3 := jQ hz
 have HE3 := jQ (HE2.o.but1 hb hg)
 have HK3 := jQ (hb.bk HK2.o hne)
 clear he hb hz
 simp only [zv]
 go_wp2_with fail
 rcases hs : Dd.nnW l2 with _ | ⟨a3, l3⟩
 ·have HW := jQ (show Dd.stoneM l = none by simp [Dd.stoneM, HS0.o, HS1.o, HS2.o, hs])
  have HX := jQ hs
  clear hs
  refine (number_any b l2 _ (HE3.o) HZ3.o).mono ?_
  intro e w1 he
  obtain ⟨rfl, hb⟩ := he.none_ HX.o
  clear he
  go_wp2_with fail
  exact ⟨rfl, Wo.no HW.o (HB3.o.trans hb)⟩
 have HS3 := jQ hs
 clear hs
 refine (number_any b l2 _ (HE3.o) HZ3.o).mono ?_
 intro e w4 he
 obtain ⟨rfl, hb, hz⟩ := he.some_ HS3.o
 have HB4 := jQ (HB3.o.trans hb)
 have HZ4 := jQ hz
 have HE4 := jQ (HE3.o.but1 hb hg)
 have HK4 := jQ (hb.bk HK3.o hne)
 clear he hb hz
 simp only [zv]
 go_wp2_with (refine wpList_store_row rfl 130 (.tmp 2) (.tmp 12) rfl W.heap.size _ rfl rfl 130 _ HK4.o (by kernel_rfl) rfl (by kernel_rfl) ?_)
 have hk := HK4.o.row (drcells ⟨a0, [], a1, [], { Dd.ca0 with k := 1, s := a2, e := a3 }⟩).toArray
 have HW := jQ (show Dd.stoneM l = some (⟨a0, [], a1, [], { Dd.ca0 with k := 1, s := a2, e := a3 }⟩, l3) by simp [Dd.stoneM, HS0.o, HS1.o, HS2.o, HS3.o])
 have hB := But.row (X := fun k => k = b ∨ k = W.heap.size) (g := W.heap.size) (HB4.o.mono (fun k h => .inl h)) (.inr rfl) (drcells ⟨a0, [], a1, [], { Dd.ca0 with k := 1, s := a2, e := a3 }⟩).toArray
 have hZ : Wz (World.setRow w4 W.heap.size (drcells ⟨a0, [], a1, [], { Dd.ca0 with k := 1, s := a2, e := a3 }⟩).toArray) b l3 := HZ4.o.but (But.row (X := fun k => k = W.heap.size) (But.refl _ _) rfl _) (fun k hk e => by have := HBL.o; omega)
 refine bodyPost_ret (results_cell_row1 rfl _ _ W.heap.size 130 _ (0, 0) _ rfl hk Tryz.underlying130 rfl (by kernel_rfl)) rfl ?_
 exact Wo.yes (val := drval) HW.o ⟨hB.os, hB.tape, hB.output, hB.size, fun k h1 h2 => hB.block k h1 (by rintro (e | e) <;> omega)⟩ hZ
theorem width_any (b : Nat) (l : List Cs.Bs) (W : World) (hE : Env W) (h : Wz W b l) :
  Calls Tryz.prog 199 #[.pointer (some ⟨b, 0, none⟩)] W (Wo b W drval (Dd.widthM l)) := by
 have hg := h.g9
 have hbl := h.lt
 have kg := Bk.new W 130 zero17
 have hB0 := (Below.refl W.heap.size W).alloc (Nat.le_refl _) (.cells zero17 130)
 have hz0 := h.below hB0
 have HE0 := jQ (hE.step hB0)
 simp only [zero17] at kg hB0 hz0 HE0
 have HB0 := jQ (But.of (X := fun k => k = b) hB0)
 have HZ0 := jQ hz0
 have HK0 := jQ kg
 have hne : ¬ W.heap.size = b := by omega
 have HBL := jQ hbl
 clear h hE kg hB0 hz0 hbl
 go_enter Tryz.func199, Tryz.ntmps199
 go_wp2_with fail
 rcases hs : Dd.nameW l with _ | ⟨a0, l0⟩
 ·have HW := jQ (show Dd.widthM l = none by simp [Dd.widthM, hs])
  have HX := jQ hs
  clear hs
  refine (wname_any b l _ HZ0.o).mono ?_
  intro e w1 he
  obtain ⟨rfl, hb⟩ := he.none_ HX.o
  clear he
  go_wp2_with fail
  exact ⟨rfl, Wo.no HW.o (HB0.o.trans hb)⟩
 have HS0 := jQ hs
 clear hs
 refine (wname_any b l _ HZ0.o).mono ?_
 intro e w1 he
 obtain ⟨rfl, hb, hz⟩ := he.some_ HS0.o
 have HB1 := jQ (HB0.o.trans hb)
 have HZ1 := jQ hz
 have HE1 := jQ (HE0.o.but1 hb hg)
 have HK1 := jQ (hb.bk HK0.o hne)
 clear he hb hz
 simp only [sv_def]
 go_wp2_with fail
 rcases hs : Dd.nameW l0 with _ | ⟨a1, l1⟩
 ·have HW := jQ (show Dd.widthM l = none by simp [Dd.widthM, HS0.o, hs])
  have HX := jQ hs
  clear hs
  refine (wname_any b l0 _ HZ1.o).mono ?_
  intro e w1 he
  obtain ⟨rfl, hb⟩ := he.none_ HX.o
  clear he
  go_wp2_with fail
  exact ⟨rfl, Wo.no HW.o (HB1.o.trans hb)⟩
 have HS1 := jQ hs
 clear hs
 refine (wname_any b l0 _ HZ1.o).mono ?_
 intro e w2 he
 obtain ⟨rfl, hb, hz⟩ := he.some_ HS1.o
 have HB2 := jQ (HB1.o.trans hb)
 have HZ2 := jQ hz
 have HE2 := jQ (HE1.o.but1 hb hg)
 have HK2 := jQ (hb.bk HK1.o hne)
 clear he hb hz
 simp only [sv_def]
 go_wp2_with fail
 rcases hs : Dd.nameW l1 with _ | ⟨a2, l2⟩
 ·have HW := jQ (show Dd.widthM l = none by simp [Dd.widthM, HS0.o, HS1.o, hs])
  have HX := jQ hs
  clear hs
  refine (wname_any b l1 _ HZ2.o).mono ?_
  intro e w1 he
  obtain ⟨rfl, hb⟩ := he.none_ HX.o
  clear he
  go_wp2_with fail
  exact ⟨rfl, Wo.no HW.o (HB2.o.trans hb)⟩
 have HS2 := jQ hs
 clear hs
 refine (wname_any b l1 _ HZ2.o).mono ?_
 intro e w3 he
 obtain ⟨rfl, hb, hz⟩ := he.some_ HS2.o
 have HB3 := jQ (HB2.o.trans hb)
 have HZ3 := jQ hz
 have HE3 := jQ (HE2.o.but1 hb hg)
 have HK3 := jQ (hb.bk HK2.o hne)
 clear he hb hz
 simp only [sv_def]
 go_wp2_with fail
 rcases hs : Dd.nnW l2 with _ | ⟨a3, l3⟩
 ·have HW := jQ (show Dd.widthM l = none by simp [Dd.widthM, HS0.o, HS1.o, HS2.o, hs])
  have HX := jQ hs
  clear hs
  refine (number_any b l2 _ (HE3.o) HZ3.o).mono ?_
  intro e w1 he
  obtain ⟨rfl, hb⟩ := he.none_ HX.o
  clear he
  go_wp2_with fail
  exact ⟨rfl, Wo.no HW.o (HB3.o.trans hb)⟩
 have HS3 := jQ hs
 clear hs
 refine (number_any b l2 _ (HE3.o) HZ3.o).mono ?_
 intro e w4 he
 obtain ⟨rfl, hb, hz⟩ := he.some_ HS3.o
 have HB4 := jQ (HB3.o.trans hb)
 have HZ4 := jQ hz
 have HE4 := jQ (HE3.o.but1 hb hg)
 have HK4 := jQ (hb.bk HK3.o hne)
 clear he hb hz
 simp only [zv]
 go_wp2_with fail
 rcases hs : Dd.nnW l3 with _ | ⟨a4, l4⟩
 ·have HW := jQ (show Dd.widthM l = none by simp [Dd.widthM, HS0.o, HS1.o, HS2.o, HS3.o, hs])
  have HX := jQ hs
  clear hs
  refine (number_any b l3 _ (HE4.o) HZ4.o).mono ?_
  intro e w1 he
  obtain ⟨rfl, hb⟩ := he.none_ HX.o
  clear he
  go_wp2_with fail
  exact ⟨rfl, Wo.no HW.o (HB4.o.trans hb)⟩
 have HS4 := jQ hs
 clear hs
 refine (number_any b l3 _ (HE4.o) HZ4.o).mono ?_
 intro e w5 he
 obtain ⟨rfl, hb, hz⟩ := he.some_ HS4.o
 have HB5 := jQ (HB4.o.trans hb)
 have HZ5 := jQ hz
 have HE5 := jQ (HE4.o.but1 hb hg)
 have HK5 := jQ (hb.bk HK4.o hne)
 clear he hb hz
 simp only [zv]
 go_wp2_with (refine wpList_store_row rfl 130 (.tmp 2) (.tmp 14) rfl W.heap.size _ rfl rfl 130 _ HK5.o (by kernel_rfl) rfl (by kernel_rfl) ?_)
 have hk := HK5.o.row (drcells ⟨a0, a1, a2, [], { Dd.ca0 with k := 2, s := a3, e := a4 }⟩).toArray
 have HW := jQ (show Dd.widthM l = some (⟨a0, a1, a2, [], { Dd.ca0 with k := 2, s := a3, e := a4 }⟩, l4) by simp [Dd.widthM, HS0.o, HS1.o, HS2.o, HS3.o, HS4.o])
 have hB := But.row (X := fun k => k = b ∨ k = W.heap.size) (g := W.heap.size) (HB5.o.mono (fun k h => .inl h)) (.inr rfl) (drcells ⟨a0, a1, a2, [], { Dd.ca0 with k := 2, s := a3, e := a4 }⟩).toArray
 have hZ : Wz (World.setRow w5 W.heap.size (drcells ⟨a0, a1, a2, [], { Dd.ca0 with k := 2, s := a3, e := a4 }⟩).toArray) b l4 := HZ5.o.but (But.row (X := fun k => k = W.heap.size) (But.refl _ _) rfl _) (fun k hk e => by have := HBL.o; omega)
 refine bodyPost_ret (results_cell_row1 rfl _ _ W.heap.size 130 _ (0, 0) _ rfl hk Tryz.underlying130 rfl (by kernel_rfl)) rfl ?_
 exact Wo.yes (val := drval) HW.o ⟨hB.os, hB.tape, hB.output, hB.size, fun k h1 h2 => hB.block k h1 (by rintro (e | e) <;> omega)⟩ hZ
theorem along_any (b : Nat) (l : List Cs.Bs) (W : World) (hE : Env W) (h : Wz W b l) :
  Calls Tryz.prog 201 #[.pointer (some ⟨b, 0, none⟩)] W (Wo b W drval (Dd.alongM l)) := by
 have hg := h.g9
 have hbl := h.lt
 have kg := Bk.new W 130 zero17
 have hB0 := (Below.refl W.heap.size W).alloc (Nat.le_refl _) (.cells zero17 130)
 have hz0 := h.below hB0
 have HE0 := jQ (hE.step hB0)
 simp only [zero17] at kg hB0 hz0 HE0
 have HB0 := jQ (But.of (X := fun k => k = b) hB0)
 have HZ0 := jQ hz0
 have HK0 := jQ kg
 have hne : ¬ W.heap.size = b := by omega
 have HBL := jQ hbl
 clear h hE kg hB0 hz0 hbl
 go_enter Tryz.func201, Tryz.ntmps201
 go_wp2_with fail
 rcases hs : Dd.nameW l with _ | ⟨a0, l0⟩
 ·have HW := jQ (show Dd.alongM l = none by simp [Dd.alongM, hs])
  have HX := jQ hs
  clear hs
  refine (wname_any b l _ HZ0.o).mono ?_
  intro e w1 he
  obtain ⟨rfl, hb⟩ := he.none_ HX.o
  clear he
  go_wp2_with fail
  exact ⟨rfl, Wo.no HW.o (HB0.o.trans hb)⟩
 have HS0 := jQ hs
 clear hs
 refine (wname_any b l _ HZ0.o).mono ?_
 intro e w1 he
 obtain ⟨rfl, hb, hz⟩ := he.some_ HS0.o
 have HB1 := jQ (HB0.o.trans hb)
 have HZ1 := jQ hz
 have HE1 := jQ (HE0.o.but1 hb hg)
 have HK1 := jQ (hb.bk HK0.o hne)
 clear he hb hz
 simp only [sv_def]
 go_wp2_with fail
 rcases hs : Dd.nameW l0 with _ | ⟨a1, l1⟩
 ·have HW := jQ (show Dd.alongM l = none by simp [Dd.alongM, HS0.o, hs])
  have HX := jQ hs
  clear hs
  refine (wname_any b l0 _ HZ1.o).mono ?_
  intro e w1 he
  obtain ⟨rfl, hb⟩ := he.none_ HX.o
  clear he
  go_wp2_with fail
  exact ⟨rfl, Wo.no HW.o (HB1.o.trans hb)⟩
 have HS1 := jQ hs
 clear hs
 refine (wname_any b l0 _ HZ1.o).mono ?_
 intro e w2 he
 obtain ⟨rfl, hb, hz⟩ := he.some_ HS1.o
 have HB2 := jQ (HB1.o.trans hb)
 have HZ2 := jQ hz
 have HE2 := jQ (HE1.o.but1 hb hg)
 have HK2 := jQ (hb.bk HK1.o hne)
 clear he hb hz
 simp only [sv_def]
 go_wp2_with fail
 rcases hs : Dd.nameW l1 with _ | ⟨a2, l2⟩
 ·have HW := jQ (show Dd.alongM l = none by simp [Dd.alongM, HS0.o, HS1.o, hs])
  have HX := jQ hs
  clear hs
  refine (wname_any b l1 _ HZ2.o).mono ?_
  intro e w1 he
  obtain ⟨rfl, hb⟩ := he.none_ HX.o
  clear he
  go_wp2_with fail
  exact ⟨rfl, Wo.no HW.o (HB2.o.trans hb)⟩
 have HS2 := jQ hs
 clear hs
 refine (wname_any b l1 _ HZ2.o).mono ?_
 intro e w3 he
 obtain ⟨rfl, hb, hz⟩ := he.some_ HS2.o
 have HB3 := jQ (HB2.o.trans hb)
 have HZ3 := jQ hz
 have HE3 := jQ (HE2.o.but1 hb hg)
 have HK3 := jQ (hb.bk HK2.o hne)
 clear he hb hz
 simp only [sv_def]
 go_wp2_with fail
 rcases hs : Dd.nameW l2 with _ | ⟨a3, l3⟩
 ·have HW := jQ (show Dd.alongM l = none by simp [Dd.alongM, HS0.o, HS1.o, HS2.o, hs])
  have HX := jQ hs
  clear hs
  refine (wname_any b l2 _ HZ3.o).mono ?_
  intro e w1 he
  obtain ⟨rfl, hb⟩ := he.none_ HX.o
  clear he
  go_wp2_with fail
  exact ⟨rfl, Wo.no HW.o (HB3.o.trans hb)⟩
 have HS3 := jQ hs
 clear hs
 refine (wname_any b l2 _ HZ3.o).mono ?_
 intro e w4 he
 obtain ⟨rfl, hb, hz⟩ := he.some_ HS3.o
 have HB4 := jQ (HB3.o.trans hb)
 have HZ4 := jQ hz
 have HE4 := jQ (HE3.o.but1 hb hg)
 have HK4 := jQ (hb.bk HK3.o hne)
 clear he hb hz
 simp only [sv_def]
 go_wp2_with (refine wpList_store_row rfl 130 (.tmp 2) (.tmp 12) rfl W.heap.size _ rfl rfl 130 _ HK4.o (by kernel_rfl) rfl (by kernel_rfl) ?_)
 have hk := HK4.o.row (drcells ⟨a0, a1, a2, a3, { Dd.ca0 with k := 4 }⟩).toArray
 have HW := jQ (show Dd.alongM l = some (⟨a0, a1, a2, a3, { Dd.ca0 with k := 4 }⟩, l3) by simp [Dd.alongM, HS0.o, HS1.o, HS2.o, HS3.o])
 have hB := But.row (X := fun k => k = b ∨ k = W.heap.size) (g := W.heap.size) (HB4.o.mono (fun k h => .inl h)) (.inr rfl) (drcells ⟨a0, a1, a2, a3, { Dd.ca0 with k := 4 }⟩).toArray
 have hZ : Wz (World.setRow w4 W.heap.size (drcells ⟨a0, a1, a2, a3, { Dd.ca0 with k := 4 }⟩).toArray) b l3 := HZ4.o.but (But.row (X := fun k => k = W.heap.size) (But.refl _ _) rfl _) (fun k hk e => by have := HBL.o; omega)
 refine bodyPost_ret (results_cell_row1 rfl _ _ W.heap.size 130 _ (0, 0) _ rfl hk Tryz.underlying130 rfl (by kernel_rfl)) rfl ?_
 exact Wo.yes (val := drval) HW.o ⟨hB.os, hB.tape, hB.output, hB.size, fun k h1 h2 => hB.block k h1 (by rintro (e | e) <;> omega)⟩ hZ
theorem level_any (b : Nat) (l : List Cs.Bs) (W : World) (hE : Env W) (h : Wz W b l) :
  Calls Tryz.prog 202 #[.pointer (some ⟨b, 0, none⟩)] W (Wo b W drval (Dd.levelM l)) := by
 have hg := h.g9
 have hbl := h.lt
 have kg := Bk.new W 130 zero17
 have hB0 := (Below.refl W.heap.size W).alloc (Nat.le_refl _) (.cells zero17 130)
 have hz0 := h.below hB0
 have HE0 := jQ (hE.step hB0)
 simp only [zero17] at kg hB0 hz0 HE0
 have HB0 := jQ (But.of (X := fun k => k = b) hB0)
 have HZ0 := jQ hz0
 have HK0 := jQ kg
 have hne : ¬ W.heap.size = b := by omega
 have HBL := jQ hbl
 clear h hE kg hB0 hz0 hbl
 go_enter Tryz.func202, Tryz.ntmps202
 go_wp2_with fail
 rcases hs : Dd.nameW l with _ | ⟨a0, l0⟩
 ·have HW := jQ (show Dd.levelM l = none by simp [Dd.levelM, hs])
  have HX := jQ hs
  clear hs
  refine (wname_any b l _ HZ0.o).mono ?_
  intro e w1 he
  obtain ⟨rfl, hb⟩ := he.none_ HX.o
  clear he
  go_wp2_with fail
  exact ⟨rfl, Wo.no HW.o (HB0.o.trans hb)⟩
 have HS0 := jQ hs
 clear hs
 refine (wname_any b l _ HZ0.o).mono ?_
 intro e w1 he
 obtain ⟨rfl, hb, hz⟩ := he.some_ HS0.o
 have HB1 := jQ (HB0.o.trans hb)
 have HZ1 := jQ hz
 have HE1 := jQ (HE0.o.but1 hb hg)
 have HK1 := jQ (hb.bk HK0.o hne)
 clear he hb hz
 simp only [sv_def]
 go_wp2_with fail
 rcases hs : Dd.nameW l0 with _ | ⟨a1, l1⟩
 ·have HW := jQ (show Dd.levelM l = none by simp [Dd.levelM, HS0.o, hs])
  have HX := jQ hs
  clear hs
  refine (wname_any b l0 _ HZ1.o).mono ?_
  intro e w1 he
  obtain ⟨rfl, hb⟩ := he.none_ HX.o
  clear he
  go_wp2_with fail
  exact ⟨rfl, Wo.no HW.o (HB1.o.trans hb)⟩
 have HS1 := jQ hs
 clear hs
 refine (wname_any b l0 _ HZ1.o).mono ?_
 intro e w2 he
 obtain ⟨rfl, hb, hz⟩ := he.some_ HS1.o
 have HB2 := jQ (HB1.o.trans hb)
 have HZ2 := jQ hz
 have HE2 := jQ (HE1.o.but1 hb hg)
 have HK2 := jQ (hb.bk HK1.o hne)
 clear he hb hz
 simp only [sv_def]
 go_wp2_with fail
 rcases hs : Dd.nameW l1 with _ | ⟨a2, l2⟩
 ·have HW := jQ (show Dd.levelM l = none by simp [Dd.levelM, HS0.o, HS1.o, hs])
  have HX := jQ hs
  clear hs
  refine (wname_any b l1 _ HZ2.o).mono ?_
  intro e w1 he
  obtain ⟨rfl, hb⟩ := he.none_ HX.o
  clear he
  go_wp2_with fail
  exact ⟨rfl, Wo.no HW.o (HB2.o.trans hb)⟩
 have HS2 := jQ hs
 clear hs
 refine (wname_any b l1 _ HZ2.o).mono ?_
 intro e w3 he
 obtain ⟨rfl, hb, hz⟩ := he.some_ HS2.o
 have HB3 := jQ (HB2.o.trans hb)
 have HZ3 := jQ hz
 have HE3 := jQ (HE2.o.but1 hb hg)
 have HK3 := jQ (hb.bk HK2.o hne)
 clear he hb hz
 simp only [sv_def]
 go_wp2_with fail
 rcases hs : Dd.sgnW l2 with _ | ⟨a3, l3⟩
 ·have HW := jQ (show Dd.levelM l = none by simp [Dd.levelM, HS0.o, HS1.o, HS2.o, hs])
  have HX := jQ hs
  clear hs
  refine (signed_any b l2 _ (HE3.o) HZ3.o).mono ?_
  intro e w1 he
  obtain ⟨rfl, hb⟩ := he.none_ HX.o
  clear he
  go_wp2_with fail
  exact ⟨rfl, Wo.no HW.o (HB3.o.trans hb)⟩
 have HS3 := jQ hs
 clear hs
 refine (signed_any b l2 _ (HE3.o) HZ3.o).mono ?_
 intro e w4 he
 obtain ⟨rfl, hb, hz⟩ := he.some_ HS3.o
 have HB4 := jQ (HB3.o.trans hb)
 have HZ4 := jQ hz
 have HE4 := jQ (HE3.o.but1 hb hg)
 have HK4 := jQ (hb.bk HK3.o hne)
 clear he hb hz
 simp only [zv]
 go_wp2_with fail
 rcases hs : Dd.nnW l3 with _ | ⟨a4, l4⟩
 ·have HW := jQ (show Dd.levelM l = none by simp [Dd.levelM, HS0.o, HS1.o, HS2.o, HS3.o, hs])
  have HX := jQ hs
  clear hs
  refine (number_any b l3 _ (HE4.o) HZ4.o).mono ?_
  intro e w1 he
  obtain ⟨rfl, hb⟩ := he.none_ HX.o
  clear he
  go_wp2_with fail
  exact ⟨rfl, Wo.no HW.o (HB4.o.trans hb)⟩
 have HS4 := jQ hs
 clear hs
 refine (number_any b l3 _ (HE4.o) HZ4.o).mono ?_
 intro e w5 he
 obtain ⟨rfl, hb, hz⟩ := he.some_ HS4.o
 have HB5 := jQ (HB4.o.trans hb)
 have HZ5 := jQ hz
 have HE5 := jQ (HE4.o.but1 hb hg)
 have HK5 := jQ (hb.bk HK4.o hne)
 clear he hb hz
 simp only [zv]
 go_wp2_with (refine wpList_store_row rfl 130 (.tmp 2) (.tmp 14) rfl W.heap.size _ rfl rfl 130 _ HK5.o (by kernel_rfl) rfl (by kernel_rfl) ?_)
 have hk := HK5.o.row (drcells ⟨a0, [], a1, a2, { Dd.ca0 with k := 5, s := a3, e := a4 }⟩).toArray
 have HW := jQ (show Dd.levelM l = some (⟨a0, [], a1, a2, { Dd.ca0 with k := 5, s := a3, e := a4 }⟩, l4) by simp [Dd.levelM, HS0.o, HS1.o, HS2.o, HS3.o, HS4.o])
 have hB := But.row (X := fun k => k = b ∨ k = W.heap.size) (g := W.heap.size) (HB5.o.mono (fun k h => .inl h)) (.inr rfl) (drcells ⟨a0, [], a1, a2, { Dd.ca0 with k := 5, s := a3, e := a4 }⟩).toArray
 have hZ : Wz (World.setRow w5 W.heap.size (drcells ⟨a0, [], a1, a2, { Dd.ca0 with k := 5, s := a3, e := a4 }⟩).toArray) b l4 := HZ5.o.but (But.row (X := fun k => k = W.heap.size) (But.refl _ _) rfl _) (fun k hk e => by have := HBL.o; omega)
 refine bodyPost_ret (results_cell_row1 rfl _ _ W.heap.size 130 _ (0, 0) _ rfl hk Tryz.underlying130 rfl (by kernel_rfl)) rfl ?_
 exact Wo.yes (val := drval) HW.o ⟨hB.os, hB.tape, hB.output, hB.size, fun k h1 h2 => hB.block k h1 (by rintro (e | e) <;> omega)⟩ hZ
end
end Go.Proofs.YtccikcpcfdjobaaGreatDoor
