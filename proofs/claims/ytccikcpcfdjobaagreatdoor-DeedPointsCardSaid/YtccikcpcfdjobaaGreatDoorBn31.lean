/-
  What the claims of layer deed need of the texts DWrn, DWro, DRdr.
-/
import Derived.Test.YtccikcpcfdjobaaGreatDoorBn06
import Derived.Test.YtccikcpcfdjobaaGreatDoorBn14
import Derived.Test.YtccikcpcfdjobaaGreatDoorBn13
import Derived.Test.YtccikcpcfdjobaaGreatDoorBn28
set_option linter.unusedVariables false
set_option linter.unusedSimpArgs false
namespace Go.Proofs.YtccikcpcfdjobaaGreatDoor
open Go.RowKit
set_option maxRecDepth 100000
theorem Env.low {w w' : World} (h : Env w) (hb : Below 9 w w') : Env w' := by
 have g9 := h.gl
 have v1 : w'.var? Tryz.prog "internal/strconv.uint64pow10" = w.var? Tryz.prog "internal/strconv.uint64pow10" := var_same (g := 1) (by kernel_rfl) (hb.block _ (by omega))
 have v2 : w'.var? Tryz.prog "strconv.ErrSyntax" = w.var? Tryz.prog "strconv.ErrSyntax" := var_same (g := 4) (by kernel_rfl) (hb.block _ (by omega))
 have v3 : w'.var? Tryz.prog "strconv.ErrRange" = w.var? Tryz.prog "strconv.ErrRange" := var_same (g := 5) (by kernel_rfl) (hb.block _ (by omega))
 obtain ⟨m, hm⟩ := h.mx
 exact ⟨h.sn.below hb (by omega), Nat.le_trans g9 hb.size, v1.trans h.pow, ⟨m, (hb.cell (p := ⟨0, 0, none⟩) (by simp)).trans hm⟩, by rw [v2]; exact h.syn, by rw [v3]; exact h.rng⟩
theorem Env.but {X : Nat → Prop} {w w' : World} (h : Env w) (hb : But X w w') (hX : ∀ k, X k → 9 ≤ k) : Env w' := h.low (hb.below hX h.gl)
theorem Env.but1 {b : Nat} {w w' : World} (h : Env w) (hb : But (fun k => k = b) w w') (hX : 9 ≤ b) : Env w' := h.but hb (fun k hk => by omega)
theorem numF_bounds {x : Cs.Bs} {n : Int} (h : Cs.numF x = some n) : -9223372036854775808 ≤ n ∧ n ≤ 9223372036854775807 := by
 unfold Cs.numF at h
 rcases ha : Lib.atoiAll x with v | _ | _
 ·rw [ha] at h
  simp only [Option.some.injEq] at h
  subst h
  exact Lib.atoiAll_bounds ha
 ·rw [ha] at h; cases h
 ·rw [ha] at h; cases h
set_option maxHeartbeats 4000000 in
theorem signed_any (b : Nat) (l : List Cs.Bs) (W : World) (hE : Env W) (h : Wz W b l) :
  Calls Tryz.prog 195 #[.pointer (some ⟨b, 0, none⟩)] W (Wo b W zv (Dd.sgnW l)) := by
 have H0 := Lib.hid (next_any b l W h)
 have HL := Lib.hid h.hl
 have hg := h.g9
 have HE := Lib.hid hE
 rcases l with _ | ⟨x, r⟩
 ·clear h hE
  go_enter Tryz.func195, Tryz.ntmps195
  go_wp2_with fail
  refine H0.out.mono ?_
  intro e w1 he
  obtain ⟨rfl, hb⟩ := he.none_ rfl
  go_wp2_with fail
  exact ⟨rfl, Wo.no rfl hb⟩
 ·have hx := HL.out x List.mem_cons_self
  rcases hn : Cs.numF x with _ | n
  ·have HA := Lib.hid (atoi_no x hn hx)
   have HW := Lib.hid (show Dd.sgnW (x :: r) = none by simp [Dd.sgnW, Dd.sgnF, hn])
   have N0 := Lib.hid (need_no 4)
   simp only [sv_def] at HA
   clear h hE hn hx
   go_enter Tryz.func195, Tryz.ntmps195
   go_wp2_with fail
   refine H0.out.mono ?_
   intro e w1 he
   obtain ⟨rfl, hb, hz⟩ := he.some_ rfl
   have HB := Lib.hid hb
   have HE1 := Lib.hid (HE.out.but1 hb hg)
   clear he hb hz
   simp only [sv_def]
   go_wp2_with fail
   refine (HA.out _ HE1.out).mono ?_
   rintro e w2 ⟨v, t, p, rfl, hb2⟩
   have HB2 := Lib.hid hb2
   clear hb2
   go_wp2_with fail
   refine (N0.out _).mono ?_
   rintro e w3 ⟨rfl, hb3⟩
   go_wp2_with fail
   exact ⟨rfl, Wo.no HW.out ((HB.out.trans (But.of HB2.out)).trans (But.of hb3))⟩
  ·have HA := Lib.hid (atoi_ok x n hn hx)
   have hnb := numF_bounds hn
   have HI := Lib.hid (fun W h => itoa_any n hnb.1 hnb.2 W h)
   have HD := Lib.hid (fun W => dbetween_any (-999999999) n 999999999 W)
   have hs : Dd.sgnF x = if Lib.itoa n = x ∧ -999999999 ≤ n ∧ n ≤ 999999999 then some n else none := by simp [Dd.sgnF, hn]
   simp only [sv_def] at HA HI
   obtain ⟨T, hT⟩ : ∃ T, Lib.itoa n = T := ⟨_, rfl⟩
   rw [hT] at HI hs
   clear hT hnb hn h hE
   rcases hq : (T == x) with _ | _
   ·have HW := Lib.hid (show Dd.sgnW (x :: r) = none by simp [Dd.sgnW, hs, show ¬ T = x by simpa using hq])
    have N0 := Lib.hid (need_no 4)
    clear hs hx
    go_enter Tryz.func195, Tryz.ntmps195
    go_wp2_with fail
    refine H0.out.mono ?_
    intro e w1 he
    obtain ⟨rfl, hb, hz⟩ := he.some_ rfl
    have HB := Lib.hid hb
    have HE1 := Lib.hid (HE.out.but1 hb hg)
    clear he hb hz
    simp only [sv_def]
    go_wp2_with fail
    refine (HA.out _).mono ?_
    rintro e w2 ⟨rfl, hb2⟩
    have HB2 := Lib.hid hb2
    have HE2 := Lib.hid (HE1.out.step hb2)
    clear hb2
    go_wp2_with fail
    refine (HI.out _ HE2.out).mono ?_
    rintro e w3 ⟨rfl, hb3⟩
    have HB3 := Lib.hid hb3
    clear hb3
    go_wp2_with fail
    refine (N0.out _).mono ?_
    rintro e w4 ⟨rfl, hb4⟩
    go_wp2_with fail
    exact ⟨rfl, Wo.no HW.out (((HB.out.trans (But.of HB2.out)).trans (But.of HB3.out)).trans (But.of hb4))⟩
   ·rcases hd : decide (-999999999 ≤ n ∧ n ≤ 999999999) with _ | _
    ·have HW := Lib.hid (show Dd.sgnW (x :: r) = none by simp [Dd.sgnW, hs, of_decide_eq_false hd])
     have N0 := Lib.hid (need_no 4)
     have HD' := Lib.hid hd
     clear hs hx hd
     go_enter Tryz.func195, Tryz.ntmps195
     go_wp2_with fail
     refine H0.out.mono ?_
     intro e w1 he
     obtain ⟨rfl, hb, hz⟩ := he.some_ rfl
     have HB := Lib.hid hb
     have HE1 := Lib.hid (HE.out.but1 hb hg)
     clear he hb hz
     simp only [sv_def]
     go_wp2_with fail
     refine (HA.out _).mono ?_
     rintro e w2 ⟨rfl, hb2⟩
     have HB2 := Lib.hid hb2
     have HE2 := Lib.hid (HE1.out.step hb2)
     clear hb2
     go_wp2_with fail
     refine (HI.out _ HE2.out).mono ?_
     rintro e w3 ⟨rfl, hb3⟩
     have HB3 := Lib.hid hb3
     clear hb3
     go_wp2_with fail
     refine (HD.out _).mono ?_
     rw [HD'.out]
     rintro e w' ⟨rfl, rfl⟩
     go_wp2_with fail
     refine (N0.out _).mono ?_
     rintro e w4 ⟨rfl, hb4⟩
     go_wp2_with fail
     exact ⟨rfl, Wo.no HW.out (((HB.out.trans (But.of HB2.out)).trans (But.of HB3.out)).trans (But.of hb4))⟩
    ·have HW := Lib.hid (show Dd.sgnW (x :: r) = some (n, r) by simp [Dd.sgnW, hs, of_decide_eq_true hd, show T = x by simpa using hq])
     have N0 := Lib.hid (need_yes 4)
     have HD' := Lib.hid hd
     clear hs hx hd
     go_enter Tryz.func195, Tryz.ntmps195
     go_wp2_with fail
     refine H0.out.mono ?_
     intro e w1 he
     obtain ⟨rfl, hb, hz⟩ := he.some_ rfl
     have HB := Lib.hid hb
     have HZ := Lib.hid hz
     have HE1 := Lib.hid (HE.out.but1 hb hg)
     clear he hb hz
     simp only [sv_def]
     go_wp2_with fail
     refine (HA.out _).mono ?_
     rintro e w2 ⟨rfl, hb2⟩
     have HB2 := Lib.hid hb2
     have HE2 := Lib.hid (HE1.out.step hb2)
     clear hb2
     go_wp2_with fail
     refine (HI.out _ HE2.out).mono ?_
     rintro e w3 ⟨rfl, hb3⟩
     have HB3 := Lib.hid hb3
     clear hb3
     go_wp2_with fail
     refine (HD.out _).mono ?_
     rw [HD'.out]
     rintro e w' ⟨rfl, rfl⟩
     go_wp2_with fail
     refine (N0.out _).mono ?_
     rintro e w4 ⟨rfl, hb4⟩
     have HB4 := Lib.hid hb4
     clear hb4
     go_wp2_with fail
     go_ret
     exact Wo.yes (val := zv) HW.out (((HB.out.trans (But.of HB2.out)).trans (But.of HB3.out)).trans (But.of HB4.out)) (((HZ.out.below HB2.out).below HB3.out).below HB4.out)
set_option maxHeartbeats 4000000 in
theorem number_any (b : Nat) (l : List Cs.Bs) (W : World) (hE : Env W) (h : Wz W b l) :
  Calls Tryz.prog 194 #[.pointer (some ⟨b, 0, none⟩)] W (Wo b W zv (Dd.nnW l)) := by
 have H0 := Lib.hid (signed_any b l W hE h)
 rcases hs : Dd.sgnW l with _ | ⟨n, r⟩
 ·have HW := Lib.hid (show Dd.nnW l = none by
   rcases l with _ | ⟨x, r⟩
   ·rfl
   ·rw [Dd.nnW, Dd.nnF]
    rw [Dd.sgnW] at hs
    rcases hx : Dd.sgnF x with _ | n
    ·rfl
    ·rw [hx] at hs; cases hs)
  clear h hE
  have HS := Lib.hid hs
  clear hs
  go_enter Tryz.func194, Tryz.ntmps194
  go_wp2_with fail
  refine H0.out.mono ?_
  intro e w1 he
  obtain ⟨rfl, hb⟩ := he.none_ HS.out
  go_wp2_with fail
  exact ⟨rfl, Wo.no HW.out hb⟩
 ·have HW := Lib.hid (show Dd.nnW l = if 0 ≤ n then some (n, r) else none by
   rcases l with _ | ⟨x, r'⟩
   ·cases hs
   ·rw [Dd.nnW, Dd.nnF]
    rw [Dd.sgnW] at hs
    rcases hx : Dd.sgnF x with _ | m
    ·rw [hx] at hs; cases hs
    ·rw [hx] at hs
     simp only [Option.some.injEq, Prod.mk.injEq] at hs
     obtain ⟨rfl, rfl⟩ := hs
     by_cases h0 : 0 ≤ m
     ·simp [h0]
     ·simp [h0])
  clear h hE
  have HS := Lib.hid hs
  clear hs
  by_cases h0 : 0 ≤ n
  ·have g0 : decide (n ≥ 0) = true := decide_eq_true h0
   have HW := Lib.hid (HW.out.trans (if_pos h0))
   have N0 := Lib.hid (need_yes 4)
   clear h0
   go_enter Tryz.func194, Tryz.ntmps194
   go_wp2_with fail
   refine H0.out.mono ?_
   intro e w1 he
   obtain ⟨rfl, hb, hz⟩ := he.some_ HS.out
   have HB := Lib.hid hb
   have HZ := Lib.hid hz
   clear he hb hz
   simp only [zv]
   go_wp2_with fail
   refine (N0.out _).mono ?_
   rintro e w3 ⟨rfl, hb3⟩
   have HB3 := Lib.hid hb3
   clear hb3
   go_wp2_with fail
   go_ret
   exact Wo.yes (val := zv) HW.out (HB.out.trans (But.of HB3.out)) (HZ.out.below HB3.out)
  ·have g0 : decide (n ≥ 0) = false := decide_eq_false h0
   have HW := Lib.hid (HW.out.trans (if_neg h0))
   have N0 := Lib.hid (need_no 4)
   clear h0
   go_enter Tryz.func194, Tryz.ntmps194
   go_wp2_with fail
   refine H0.out.mono ?_
   intro e w1 he
   obtain ⟨rfl, hb, hz⟩ := he.some_ HS.out
   have HB := Lib.hid hb
   clear he hb hz
   simp only [zv]
   go_wp2_with fail
   refine (N0.out _).mono ?_
   rintro e w3 ⟨rfl, hb3⟩
   go_wp2_with fail
   exact ⟨rfl, Wo.no HW.out (HB.out.trans (But.of hb3))⟩
set_option maxHeartbeats 2000000 in
theorem fixed_any (b : Nat) (k : Cs.Bs) (l : List Cs.Bs) (W : World) (h : Wz W b l) :
  Calls Tryz.prog 204 #[.pointer (some ⟨b, 0, none⟩), .string ⟨k.toArray⟩] W (Wo b W uv (Dd.fixW k l)) := by
 have H0 := Lib.hid (next_any b l W h)
 rcases l with _ | ⟨x, r⟩
 ·clear h
  go_enter Tryz.func204, Tryz.ntmps204
  go_wp2_with fail
  refine H0.out.mono ?_
  intro e w1 he
  obtain ⟨rfl, hb⟩ := he.none_ rfl
  go_wp2_with fail
  exact ⟨rfl, Wo.no rfl hb⟩
 ·clear h
  rcases hq : (x == k) with _ | _
  ·have HW := Lib.hid (show Dd.fixW k (x :: r) = none by simp [Dd.fixW, show ¬ x = k by simpa using hq])
   have N0 := Lib.hid (need_no 4)
   go_enter Tryz.func204, Tryz.ntmps204
   go_wp2_with fail
   refine H0.out.mono ?_
   intro e w1 he
   obtain ⟨rfl, hb, hz⟩ := he.some_ rfl
   have HB := Lib.hid hb
   clear he hb hz
   simp only [sv_def]
   go_wp2_with fail
   refine (N0.out _).mono ?_
   rintro e w3 ⟨rfl, hb3⟩
   go_wp2_with fail
   exact ⟨rfl, Wo.no HW.out (HB.out.trans (But.of hb3))⟩
  ·have HW := Lib.hid (show Dd.fixW k (x :: r) = some ((), r) by simp [Dd.fixW, show x = k by simpa using hq])
   have N0 := Lib.hid (need_yes 4)
   go_enter Tryz.func204, Tryz.ntmps204
   go_wp2_with fail
   refine H0.out.mono ?_
   intro e w1 he
   obtain ⟨rfl, hb, hz⟩ := he.some_ rfl
   have HB := Lib.hid hb
   have HZ := Lib.hid hz
   clear he hb hz
   simp only [sv_def]
   go_wp2_with fail
   refine (N0.out _).mono ?_
   rintro e w3 ⟨rfl, hb3⟩
   have HB3 := Lib.hid hb3
   clear hb3
   go_wp2_with fail
   go_end0
   exact Wo.yes (val := uv) HW.out (HB.out.trans (But.of HB3.out)) (HZ.out.below HB3.out)
set_option maxHeartbeats 2000000 in
theorem wend_any (b : Nat) (l : List Cs.Bs) (W : World) (h : Wz W b l) :
  Calls Tryz.prog 156 #[.pointer (some ⟨b, 0, none⟩)] W (Wo b W uv (Dd.endW l)) := by
 obtain ⟨A, c, hK, hR, hc⟩ := h.ex
 have c0 := (hK.cell 0).trans rfl
 have f0 := hK.frozen 0
 have l0 := hK.lt
 have HZ := Lib.hid h
 rcases l with _ | ⟨x, r⟩
 ·have N0 := Lib.hid (need_yes 4)
  clear h hK hR
  go_enter Tryz.func156, Tryz.ntmps156
  go_wp2_with (fail)
  refine (N0.out _).mono ?_
  rintro e w1 ⟨rfl, hb⟩
  have HB := Lib.hid hb
  clear hb
  go_wp2_with (fail)
  go_end0
  exact Wo.yes (val := uv) rfl (But.of HB.out) (HZ.out.below HB.out)
 ·have N0 := Lib.hid (need_no 4)
  simp only [List.length_cons] at c0
  have g0 : (((r.length + 1 : Nat) : Int) == 0) = false := by simp; omega
  clear h hK hR
  go_enter Tryz.func156, Tryz.ntmps156
  go_wp2_with (fail)
  refine (N0.out _).mono ?_
  rintro e w1 ⟨rfl, hb⟩
  go_wp2_with (fail)
  exact ⟨rfl, Wo.no rfl (But.of hb)⟩
end Go.Proofs.YtccikcpcfdjobaaGreatDoor

namespace Go.Proofs.YtccikcpcfdjobaaGreatDoor
open Go.RowKit
set_option maxRecDepth 100000
set_option maxHeartbeats 2000000 in
theorem index_wds (A : Option Addr) (c : Nat) (l : List Cs.Bs) (k : Cs.Bs) (w : World) (hR : Rd w w.heap.size 1 A l.length (wcells l)) (hl : l.length ≤ 1000000) :
  Calls Tryz.prog 283 #[.slice A l.length c, .string ⟨k.toArray⟩] w fun e w' => e = .returned (.int .i64 (Dd.idx l k)) ∧ Below w.heap.size w w' := by
 have HR := Lib.hid hR
 unfold Dd.idx
 clear hR
 go_enter Tryz.func283, Tryz.ntmps283
 go_wp2_with fail
 go_loopw [8] (fun I wr => ∃ j : Nat, j ≤ l.length ∧ I = .int .i64 j ∧ (∀ i (h : i < l.length), i < j → decide (l[i] = k) = false) ∧ Below w.heap.size w wr) (fun I _ => l.length - (intOf I).toNat)
 case atStart => exact ⟨0, Nat.zero_le _, rfl, fun j _ h => absurd h (Nat.not_lt_zero j), Below.refl _ _⟩
 case round =>
  obtain ⟨j, hj, rfl, hall, hB⟩ := hrel
  have HA := Lib.hid hall
  have HB := Lib.hid hB
  clear hall
  by_cases hlt : j < l.length
  ·obtain ⟨b, off, rfl, hb, hc⟩ := (HR.out.below hB (Nat.le_refl _)).text hlt
   obtain ⟨x, hx⟩ : ∃ x, l[j] = x := ⟨_, rfl⟩
   rw [hx] at hc
   clear hB
   rcases hp : (k == x) with _ | _
   ·have HP := Lib.hid (show ¬ x = k by intro h; rw [h] at hp; simp at hp)
    have HX := Lib.hid hx
    clear hx
    go_wp2_with fail
    go_roundw
    case rel =>
     refine ⟨j + 1, by omega, by go_num, fun i h hi => ?_, HB.out⟩
     by_cases e : i = j
     ·subst e
      rw [HX.out]
      exact decide_eq_false HP.out
     ·exact HA.out i h (by omega)
    case measure => simp [intOf]; omega
   ·have HP := Lib.hid (show x = k from (beq_iff_eq.1 hp).symm)
    have HRES := Lib.hid (show Dd.idxP (fun x => decide (x = k)) l 0 = j from Dd.idxP_at hlt (by rw [hx]; exact decide_eq_true HP.out) (fun i hi => HA.out i (by omega) hi))
    clear hx
    go_wp2_with fail
    go_ret
    exact ⟨ret_int HRES.out.symm, HB.out⟩
  ·have HRES := Lib.hid (show Dd.idxP (fun x => decide (x = k)) l 0 = -1 from Dd.idxP_no (fun i h => HA.out i h (by omega)))
   obtain rfl : j = l.length := by omega
   clear hB
   go_wp2_with fail
   go_ret
   exact ⟨ret_int HRES.out.symm, HB.out⟩
theorem Rd.drop_text {w : World} {B b o n : Nat} {l : List Cs.Bs} (h : Rd w B 1 (some ⟨b, o, none⟩) l.length (wcells l)) (hn : n ≤ l.length) : Rd w B 1 (some ⟨b, o + n, none⟩) (l.drop n).length (wcells (l.drop n)) := by
 refine ⟨by simp [wcells], fun hp => ?_⟩
 have hp' : n < l.length := by simp at hp; omega
 obtain ⟨b', o', e, hb, hc⟩ := h.2 (by omega)
 obtain ⟨rfl, rfl⟩ : b = b' ∧ o = o' := by simpa using e
 refine ⟨_, _, rfl, hb, fun j hj => ?_⟩
 rw [show o + n + j = o + (n + j) by omega, hc (n + j) (by simp at hj; omega)]
 simp [wcells]
theorem wsum_le {l : List Cs.Bs} {m : Nat} (h : Dd.wsum l ≤ m) (n : Nat) : Dd.wsum (l.drop n) ≤ m := Nat.le_trans (Dd.wsum_drop l n) h
set_option maxHeartbeats 4000000 in
theorem upTo_any (b : Nat) (k : Cs.Bs) (l : List Cs.Bs) (W : World) (h : Wz W b l) :
  Calls Tryz.prog 265 #[.pointer (some ⟨b, 0, none⟩), .string ⟨k.toArray⟩] W (Wo b W sv (Dd.upTo k l)) := by
 obtain ⟨A, c, hK, hR, hc⟩ := h.ex
 have HW := Lib.hid (show Dd.upTo k l = if Dd.idx l k < 0 then none else some (Lib.join (l.take (Dd.idx l k).toNat) [32], l.drop ((Dd.idx l k).toNat + 1)) from rfl)
 have HI := Lib.hid (index_wds A c l k W (hR.more (Nat.le_of_lt hK.lt)) h.hn)
 have hrg := Dd.idxP_range (fun x => decide (x = k)) l
 have hg := h.g9
 have HS := Lib.hid h.hs
 have hd : Dd.idx l k = Dd.idxP (fun x => decide (x = k)) l 0 := rfl
 rw [← hd] at hrg
 clear hd
 obtain ⟨i, hi⟩ : ∃ i, Dd.idx l k = i := ⟨_, rfl⟩
 rw [hi] at HW HI hrg
 have c0 := (hK.cell 0).trans rfl
 have f0 := hK.frozen 0
 have l0 := hK.lt
 have HK := Lib.hid hK
 have HR := Lib.hid hR
 clear hi hK hR h
 by_cases h0 : i < 0
 ·obtain rfl : i = -1 := by omega
  have HW := Lib.hid (HW.out.trans (if_pos h0))
  have N0 := Lib.hid (need_no 4)
  clear h0
  go_enter Tryz.func265, Tryz.ntmps265
  go_wp2_with fail
  refine HI.out.mono ?_
  rintro e w1 ⟨rfl, hb1⟩
  have HB1 := Lib.hid hb1
  clear hb1
  go_wp2_with fail
  refine (N0.out _).mono ?_
  rintro e w2 ⟨rfl, hb2⟩
  go_wp2_with fail
  exact ⟨rfl, Wo.no HW.out ((But.of HB1.out).trans (But.of hb2))⟩
 ·obtain ⟨n, rfl⟩ : ∃ n : Nat, i = n := ⟨i.toNat, by omega⟩
  have hn : n < l.length := by omega
  rw [Int.toNat_natCast] at HW
  have HW := Lib.hid (HW.out.trans (if_neg h0))
  have g0 : decide ((n : Int) ≥ 0) = true := decide_eq_true (by omega)
  have N0 := Lib.hid (need_yes 4)
  obtain ⟨o, off, rfl, ho, _⟩ := HR.out.text (k := 0) (by omega)
  have hws := HS.out
  have hll := Dd.wsum_len l
  have hP1 : (l.take n).length = n := by simp; omega
  have HJ := Lib.hid (fun W' (hb : Below W.heap.size W W') => join_any (some ⟨o, off, none⟩) c (l.take n) W' (((HR.out.below hb (Nat.le_of_lt HK.out.lt)).more (Nat.le_trans (Nat.le_of_lt HK.out.lt) hb.size)).takeTx (Nat.le_of_lt hn)) (by rw [hP1]; omega) (by rw [hP1]; omega)
   (fun x hx => Nat.le_trans (Dd.wsum_mem l x (List.mem_of_mem_take hx)) hws))
  rw [hP1] at HJ
  obtain ⟨T, hT⟩ : ∃ T, Lib.join (l.take n) [32] = T := ⟨_, rfl⟩
  rw [hT] at HJ HW
  have hwr : IntKind.i64.wrap ((n : Int) + 1) = ((n + 1 : Nat) : Int) := IntWalk.i64_in _ (by omega)
  have hlt1 : n + 1 ≤ l.length := hn
  simp only [sv_def] at HJ
  have HC := Lib.hid hc
  clear hP1 hT h0 hws
  go_enter Tryz.func265, Tryz.ntmps265
  go_wp2_with fail
  refine HI.out.mono ?_
  rintro e w1 ⟨rfl, hb1⟩
  have HB1 := Lib.hid hb1
  clear hb1
  go_wp2_with fail
  refine (N0.out _).mono ?_
  rintro e w2 ⟨rfl, hb2⟩
  have HB2 := Lib.hid (HB1.out.trans (hb2.mono HB1.out.size))
  have hk2 := HK.out.below HB2.out HK.out.lt
  have c0 := (hk2.cell 0).trans rfl
  have f0 := hk2.frozen 0
  have l0 := hk2.lt
  clear hb2 hk2
  go_wp2_with fail
  refine (HJ.out _ HB2.out).mono ?_
  rintro e w3 ⟨rfl, hb3⟩
  have HB3 := Lib.hid (HB2.out.trans (hb3.mono HB2.out.size))
  have hk3 := HK.out.below HB3.out HK.out.lt
  have c0 := (hk3.cell 0).trans rfl
  have f0 := hk3.frozen 0
  have l0 := hk3.lt
  clear hb3 hk3
  go_wp2_with fail
  case inl =>
   have hln : l.length = n + 1 := by
    have := HC.out
    omega
   have hdr : l.drop (n + 1) = [] := List.drop_eq_nil_of_le (by omega)
   go_ret
   refine Wo.yes (val := sv) HW.out ((But.of (X := fun k => k = b) HB3.out).set (p := ⟨b, 0, none⟩) rfl _) ?_
   have hk3 := (HK.out.below HB3.out HK.out.lt).set 0 (.slice (some ⟨o, off, none⟩) (l.length - (n + 1)) 0)
   rw [hdr]
   rw [show l.length - (n + 1) = 0 by omega] at hk3 ⊢
   exact ⟨⟨_, _, hk3, Rd.nil _ _ _ _, Nat.le_refl _⟩, Nat.zero_le _, hg⟩
  case inr =>
   have HDR := Lib.hid (((HR.out.below HB3.out (Nat.le_of_lt HK.out.lt)).drop_text hlt1).setc (p := ⟨b, 0, none⟩) (Nat.le_refl b) (.slice (some ⟨o, off + (n + 1), none⟩) (l.length - (n + 1)) (c - (n + 1))))
   have HSD := Lib.hid (wsum_le HS.out (n + 1))
   go_ret
   refine Wo.yes (val := sv) HW.out ((But.of (X := fun k => k = b) HB3.out).set (p := ⟨b, 0, none⟩) rfl _) ?_
   have hk3 := (HK.out.below HB3.out HK.out.lt).set 0 (.slice (some ⟨o, off + (n + 1), none⟩) (l.length - (n + 1)) (c - (n + 1)))
   have hdl : (l.drop (n + 1)).length = l.length - (n + 1) := List.length_drop
   refine ⟨⟨_, _, by rw [hdl]; exact hk3, HDR.out, by rw [hdl]; have := HC.out; omega⟩, HSD.out, hg⟩
set_option maxHeartbeats 4000000 in
theorem length_any (b : Nat) (k : Cs.Bs) (l : List Cs.Bs) (W : World) (hE : Env W) (h : Wz W b l) :
  Calls Tryz.prog 236 #[.pointer (some ⟨b, 0, none⟩), .string ⟨k.toArray⟩] W (Wo b W zv (Dd.lenW k l)) := by
 have H0 := Lib.hid (upTo_any b k l W h)
 have hg := h.g9
 have HE := Lib.hid hE
 have hup : Dd.upTo k l = if Dd.idx l k < 0 then none else some (Lib.join (l.take (Dd.idx l k).toNat) [32], l.drop ((Dd.idx l k).toNat + 1)) := rfl
 have hsh : ∀ p, Dd.upTo k l = some p → p.1.length ≤ 1000000 := by
  intro p hp
  rw [hup] at hp
  split at hp
  ·cases hp
  ·simp only [Option.some.injEq] at hp
   subst hp
   exact Nat.le_trans (Nat.le_trans (Dd.wsum_join _) (Dd.wsum_take _ _)) h.hs
 rcases hs : Dd.upTo k l with _ | ⟨T, r⟩
 ·have HW := Lib.hid (show Dd.lenW k l = none by simp [Dd.lenW, hs])
  have HS := Lib.hid hs
  clear h hE hup hsh hs
  go_enter Tryz.func236, Tryz.ntmps236
  go_wp2_with fail
  refine H0.out.mono ?_
  intro e w1 he
  obtain ⟨rfl, hb⟩ := he.none_ HS.out
  go_wp2_with fail
  exact ⟨rfl, Wo.no HW.out hb⟩
 ·have hT := hsh _ hs
  have HW := Lib.hid (show Dd.lenW k l = if (Cs.lnkF T).2 = 0 ∧ 1 ≤ (Cs.lnkF T).1 ∧ (Cs.lnkF T).1 ≤ 100000 then some ((Cs.lnkF T).1, r) else none by simp [Dd.lenW, hs])
  have HL := Lib.hid (fun W h => Links_any T hT W h)
  have HS := Lib.hid hs
  obtain ⟨R, hR⟩ : ∃ R, Cs.lnkF T = R := ⟨_, rfl⟩
  rw [hR] at HW HL
  obtain ⟨n, er⟩ := R
  dsimp only at HW HL
  have HD := Lib.hid (fun W => dbetween_any 1 n 100000 W)
  simp only [sv_def] at HL
  clear h hE hup hsh hs hR
  by_cases he0 : er = 0
  ·subst he0
   rcases hd : decide (1 ≤ n ∧ n ≤ 100000) with _ | _
   ·have HX := Lib.hid (HW.out.trans (if_neg (fun h => of_decide_eq_false hd h.2)))
    have N0 := Lib.hid (need_no 4)
    have HD' := Lib.hid hd
    clear hd
    go_enter Tryz.func236, Tryz.ntmps236
    go_wp2_with fail
    refine H0.out.mono ?_
    intro e w1 he
    obtain ⟨rfl, hb, hz⟩ := he.some_ HS.out
    have HB := Lib.hid hb
    have HE1 := Lib.hid (HE.out.but1 hb hg)
    clear he hb hz
    simp only [sv_def]
    go_wp2_with fail
    refine (HL.out _ HE1.out).mono ?_
    rintro e w2 ⟨rfl, hb2⟩
    have HB2 := Lib.hid hb2
    clear hb2
    go_wp2_with fail
    refine (HD.out _).mono ?_
    rw [HD'.out]
    rintro e w' ⟨rfl, rfl⟩
    go_wp2_with fail
    refine (N0.out _).mono ?_
    rintro e w4 ⟨rfl, hb4⟩
    go_wp2_with fail
    exact ⟨rfl, Wo.no HX.out ((HB.out.trans (But.of HB2.out)).trans (But.of hb4))⟩
   ·have HX := Lib.hid (HW.out.trans (if_pos ⟨rfl, of_decide_eq_true hd⟩))
    have N0 := Lib.hid (need_yes 4)
    have HD' := Lib.hid hd
    clear hd
    go_enter Tryz.func236, Tryz.ntmps236
    go_wp2_with fail
    refine H0.out.mono ?_
    intro e w1 he
    obtain ⟨rfl, hb, hz⟩ := he.some_ HS.out
    have HB := Lib.hid hb
    have HZ := Lib.hid hz
    have HE1 := Lib.hid (HE.out.but1 hb hg)
    clear he hb hz
    simp only [sv_def]
    go_wp2_with fail
    refine (HL.out _ HE1.out).mono ?_
    rintro e w2 ⟨rfl, hb2⟩
    have HB2 := Lib.hid hb2
    clear hb2
    go_wp2_with fail
    refine (HD.out _).mono ?_
    rw [HD'.out]
    rintro e w' ⟨rfl, rfl⟩
    go_wp2_with fail
    refine (N0.out _).mono ?_
    rintro e w4 ⟨rfl, hb4⟩
    have HB4 := Lib.hid hb4
    clear hb4
    go_wp2_with fail
    go_ret
    exact Wo.yes (val := zv) HX.out ((HB.out.trans (But.of HB2.out)).trans (But.of HB4.out)) ((HZ.out.below HB2.out).below HB4.out)
  ·have HX := Lib.hid (HW.out.trans (if_neg (fun h => he0 h.1)))
   have N0 := Lib.hid (need_no 4)
   have he1 : (er == 0) = false := by simpa using he0
   clear he0
   go_enter Tryz.func236, Tryz.ntmps236
   go_wp2_with fail
   refine H0.out.mono ?_
   intro e w1 he
   obtain ⟨rfl, hb, hz⟩ := he.some_ HS.out
   have HB := Lib.hid hb
   have HE1 := Lib.hid (HE.out.but1 hb hg)
   clear he hb hz
   simp only [sv_def]
   go_wp2_with fail
   refine (HL.out _ HE1.out).mono ?_
   rintro e w2 ⟨rfl, hb2⟩
   have HB2 := Lib.hid hb2
   clear hb2
   go_wp2_with fail
   refine (N0.out _).mono ?_
   rintro e w4 ⟨rfl, hb4⟩
   go_wp2_with fail
   exact ⟨rfl, Wo.no HX.out ((HB.out.trans (But.of HB2.out)).trans (But.of hb4))⟩
set_option maxHeartbeats 4000000 in
theorem bearing_any (b : Nat) (k : Cs.Bs) (l : List Cs.Bs) (W : World) (hE : Env W) (h : Wz W b l) :
  Calls Tryz.prog 237 #[.pointer (some ⟨b, 0, none⟩), .string ⟨k.toArray⟩] W (Wo b W zv (Dd.berW k l)) := by
 have H0 := Lib.hid (upTo_any b k l W h)
 have hg := h.g9
 have HE := Lib.hid hE
 have hup : Dd.upTo k l = if Dd.idx l k < 0 then none else some (Lib.join (l.take (Dd.idx l k).toNat) [32], l.drop ((Dd.idx l k).toNat + 1)) := rfl
 have hsh : ∀ p, Dd.upTo k l = some p → p.1.length ≤ 1000000 := by
  intro p hp
  rw [hup] at hp
  split at hp
  ·cases hp
  ·simp only [Option.some.injEq] at hp
   subst hp
   exact Nat.le_trans (Nat.le_trans (Dd.wsum_join _) (Dd.wsum_take _ _)) h.hs
 rcases hs : Dd.upTo k l with _ | ⟨T, r⟩
 ·have HW := Lib.hid (show Dd.berW k l = none by simp [Dd.berW, hs])
  have HS := Lib.hid hs
  clear h hE hup hsh hs
  go_enter Tryz.func237, Tryz.ntmps237
  go_wp2_with fail
  refine H0.out.mono ?_
  intro e w1 he
  obtain ⟨rfl, hb⟩ := he.none_ HS.out
  go_wp2_with fail
  exact ⟨rfl, Wo.no HW.out hb⟩
 ·have hT := hsh _ hs
  have HW := Lib.hid (show Dd.berW k l = if (Cs.berF T).2 = 0 then some ((Cs.berF T).1, r) else none by simp [Dd.berW, hs])
  have HL := Lib.hid (fun W h => Bearing_any T hT W h)
  have HS := Lib.hid hs
  obtain ⟨R, hR⟩ : ∃ R, Cs.berF T = R := ⟨_, rfl⟩
  rw [hR] at HW HL
  obtain ⟨n, er⟩ := R
  dsimp only at HW HL
  simp only [sv_def] at HL
  clear h hE hup hsh hs hR
  by_cases he0 : er = 0
  ·subst he0
   have HX := Lib.hid (HW.out.trans (if_pos rfl))
   have N0 := Lib.hid (need_yes 4)
   go_enter Tryz.func237, Tryz.ntmps237
   go_wp2_with fail
   refine H0.out.mono ?_
   intro e w1 he
   obtain ⟨rfl, hb, hz⟩ := he.some_ HS.out
   have HB := Lib.hid hb
   have HZ := Lib.hid hz
   have HE1 := Lib.hid (HE.out.but1 hb hg)
   clear he hb hz
   simp only [sv_def]
   go_wp2_with fail
   refine (HL.out _ HE1.out).mono ?_
   rintro e w2 ⟨rfl, hb2⟩
   have HB2 := Lib.hid hb2
   clear hb2
   go_wp2_with fail
   refine (N0.out _).mono ?_
   rintro e w4 ⟨rfl, hb4⟩
   have HB4 := Lib.hid hb4
   clear hb4
   go_wp2_with fail
   go_ret
   exact Wo.yes (val := zv) HX.out ((HB.out.trans (But.of HB2.out)).trans (But.of HB4.out)) ((HZ.out.below HB2.out).below HB4.out)
  ·have HX := Lib.hid (HW.out.trans (if_neg he0))
   have N0 := Lib.hid (need_no 4)
   have he1 : (er == 0) = false := by simpa using he0
   clear he0
   go_enter Tryz.func237, Tryz.ntmps237
   go_wp2_with fail
   refine H0.out.mono ?_
   intro e w1 he
   obtain ⟨rfl, hb, hz⟩ := he.some_ HS.out
   have HB := Lib.hid hb
   have HE1 := Lib.hid (HE.out.but1 hb hg)
   clear he hb hz
   simp only [sv_def]
   go_wp2_with fail
   refine (HL.out _ HE1.out).mono ?_
   rintro e w2 ⟨rfl, hb2⟩
   have HB2 := Lib.hid hb2
   clear hb2
   go_wp2_with fail
   refine (N0.out _).mono ?_
   rintro e w4 ⟨rfl, hb4⟩
   go_wp2_with fail
   exact ⟨rfl, Wo.no HX.out ((HB.out.trans (But.of HB2.out)).trans (But.of hb4))⟩
end Go.Proofs.YtccikcpcfdjobaaGreatDoor

namespace Go.Proofs.YtccikcpcfdjobaaGreatDoor
open Go.RowKit
set_option maxRecDepth 100000
def drcells (d : Dd.Dr) : List Value := [.string ⟨d.l.toArray⟩, .string ⟨d.o.toArray⟩, .string ⟨d.a.toArray⟩, .string ⟨d.b.toArray⟩, .int .u8 d.c.k, .int .i64 d.c.l, .int .i64 d.c.o, .int .i64 d.c.a, .int .i64 d.c.b, .int .i64 d.c.s, .int .i64 d.c.e, .int .i64 d.c.c.b, .int .i64 d.c.c.n, .int .i64 d.c.c.l, .int .i64 d.c.c.y, .int .i64 d.c.c.w, .int .i64 d.c.c.s]
def drval (d : Dd.Dr) : Value := .agg (drcells d).toArray
def zero17 : Array Value := #[.string ⟨#[]⟩, .string ⟨#[]⟩, .string ⟨#[]⟩, .string ⟨#[]⟩, .int .u8 0, .int .i64 0, .int .i64 0, .int .i64 0, .int .i64 0, .int .i64 0, .int .i64 0, .int .i64 0, .int .i64 0, .int .i64 0, .int .i64 0, .int .i64 0, .int .i64 0]
set_option maxHeartbeats 8000000 in
theorem stone_any (b : Nat) (l : List Cs.Bs) (W : World) (hE : Env W) (h : Wz W b l) :
  Calls Tryz.prog 198 #[.pointer (some ⟨b, 0, none⟩)] W (Wo b W drval (Dd.stoneM l)) := by
 have hg := h.g9
 have hbl := h.lt
 have kg := Bk.new W 130 zero17
 have hB0 := (Below.refl W.heap.size W).alloc (Nat.le_refl _) (.cells zero17 130)
 have hz0 := h.below hB0
 have HE0 := Lib.hid (hE.step hB0)
 simp only [zero17] at kg hB0 hz0 HE0
 have HB0 := Lib.hid (But.of (X := fun k => k = b) hB0)
 have HZ0 := Lib.hid hz0
 have HK0 := Lib.hid kg
 have hne : ¬ W.heap.size = b := by omega
 have HBL := Lib.hid hbl
 clear h hE kg hB0 hz0 hbl
 go_enter Tryz.func198, Tryz.ntmps198
 go_wp2_with fail
 rcases hs : Dd.nameW l with _ | ⟨a0, l0⟩
 ·have HW := Lib.hid (show Dd.stoneM l = none by simp [Dd.stoneM, hs])
  have HX := Lib.hid hs
  clear hs
  refine (wname_any b l _ HZ0.out).mono ?_
  intro e w1 he
  obtain ⟨rfl, hb⟩ := he.none_ HX.out
  clear he
  go_wp2_with fail
  exact ⟨rfl, Wo.no HW.out (HB0.out.trans hb)⟩
 have HS0 := Lib.hid hs
 clear hs
 refine (wname_any b l _ HZ0.out).mono ?_
 intro e w1 he
 obtain ⟨rfl, hb, hz⟩ := he.some_ HS0.out
 have HB1 := Lib.hid (HB0.out.trans hb)
 have HZ1 := Lib.hid hz
 have HE1 := Lib.hid (HE0.out.but1 hb hg)
 have HK1 := Lib.hid (hb.bk HK0.out hne)
 clear he hb hz
 simp only [sv_def]
 go_wp2_with fail
 rcases hs : Dd.nameW l0 with _ | ⟨a1, l1⟩
 ·have HW := Lib.hid (show Dd.stoneM l = none by simp [Dd.stoneM, HS0.out, hs])
  have HX := Lib.hid hs
  clear hs
  refine (wname_any b l0 _ HZ1.out).mono ?_
  intro e w1 he
  obtain ⟨rfl, hb⟩ := he.none_ HX.out
  clear he
  go_wp2_with fail
  exact ⟨rfl, Wo.no HW.out (HB1.out.trans hb)⟩
 have HS1 := Lib.hid hs
 clear hs
 refine (wname_any b l0 _ HZ1.out).mono ?_
 intro e w2 he
 obtain ⟨rfl, hb, hz⟩ := he.some_ HS1.out
 have HB2 := Lib.hid (HB1.out.trans hb)
 have HZ2 := Lib.hid hz
 have HE2 := Lib.hid (HE1.out.but1 hb hg)
 have HK2 := Lib.hid (hb.bk HK1.out hne)
 clear he hb hz
 simp only [sv_def]
 go_wp2_with fail
 rcases hs : Dd.nnW l1 with _ | ⟨a2, l2⟩
 ·have HW := Lib.hid (show Dd.stoneM l = none by simp [Dd.stoneM, HS0.out, HS1.out, hs])
  have HX := Lib.hid hs
  clear hs
  refine (number_any b l1 _ (HE2.out) HZ2.out).mono ?_
  intro e w1 he
  obtain ⟨rfl, hb⟩ := he.none_ HX.out
  clear he
  go_wp2_with fail
  exact ⟨rfl, Wo.no HW.out (HB2.out.trans hb)⟩
 have HS2 := Lib.hid hs
 clear hs
 refine (number_any b l1 _ (HE2.out) HZ2.out).mono ?_
 intro e w3 he
 obtain ⟨rfl, hb, hz⟩ := he.some_ HS2.out
 have HB3 := Lib.hid (HB2.out.trans hb)
 have HZ3 := Lib.hid hz
 have HE3 := Lib.hid (HE2.out.but1 hb hg)
 have HK3 := Lib.hid (hb.bk HK2.out hne)
 clear he hb hz
 simp only [zv]
 go_wp2_with fail
 rcases hs : Dd.nnW l2 with _ | ⟨a3, l3⟩
 ·have HW := Lib.hid (show Dd.stoneM l = none by simp [Dd.stoneM, HS0.out, HS1.out, HS2.out, hs])
  have HX := Lib.hid hs
  clear hs
  refine (number_any b l2 _ (HE3.out) HZ3.out).mono ?_
  intro e w1 he
  obtain ⟨rfl, hb⟩ := he.none_ HX.out
  clear he
  go_wp2_with fail
  exact ⟨rfl, Wo.no HW.out (HB3.out.trans hb)⟩
 have HS3 := Lib.hid hs
 clear hs
 refine (number_any b l2 _ (HE3.out) HZ3.out).mono ?_
 intro e w4 he
 obtain ⟨rfl, hb, hz⟩ := he.some_ HS3.out
 have HB4 := Lib.hid (HB3.out.trans hb)
 have HZ4 := Lib.hid hz
 have HE4 := Lib.hid (HE3.out.but1 hb hg)
 have HK4 := Lib.hid (hb.bk HK3.out hne)
 clear he hb hz
 simp only [zv]
 go_wp2_with (refine wpList_store_row rfl 130 (.tmp 2) (.tmp 12) rfl W.heap.size _ rfl rfl 130 _ HK4.out (by kernel_rfl) rfl (by kernel_rfl) ?_)
 have hk := HK4.out.row (drcells ⟨a0, [], a1, [], { Dd.ca0 with k := 1, s := a2, e := a3 }⟩).toArray
 have HW := Lib.hid (show Dd.stoneM l = some (⟨a0, [], a1, [], { Dd.ca0 with k := 1, s := a2, e := a3 }⟩, l3) by simp [Dd.stoneM, HS0.out, HS1.out, HS2.out, HS3.out])
 have hB := But.row (X := fun k => k = b ∨ k = W.heap.size) (g := W.heap.size) (HB4.out.mono (fun k h => .inl h)) (.inr rfl) (drcells ⟨a0, [], a1, [], { Dd.ca0 with k := 1, s := a2, e := a3 }⟩).toArray
 have hZ : Wz (World.setRow w4 W.heap.size (drcells ⟨a0, [], a1, [], { Dd.ca0 with k := 1, s := a2, e := a3 }⟩).toArray) b l3 := HZ4.out.but (But.row (X := fun k => k = W.heap.size) (But.refl _ _) rfl _) (fun k hk e => by have := HBL.out; omega)
 refine bodyPost_ret (results_cell_row1 rfl _ _ W.heap.size 130 _ (0, 0) _ rfl hk Tryz.underlying130 rfl (by kernel_rfl)) rfl ?_
 exact Wo.yes (val := drval) HW.out ⟨hB.os, hB.tape, hB.output, hB.size, fun k h1 h2 => hB.block k h1 (by rintro (e | e) <;> omega)⟩ hZ
set_option maxHeartbeats 8000000 in
theorem width_any (b : Nat) (l : List Cs.Bs) (W : World) (hE : Env W) (h : Wz W b l) :
  Calls Tryz.prog 199 #[.pointer (some ⟨b, 0, none⟩)] W (Wo b W drval (Dd.widthM l)) := by
 have hg := h.g9
 have hbl := h.lt
 have kg := Bk.new W 130 zero17
 have hB0 := (Below.refl W.heap.size W).alloc (Nat.le_refl _) (.cells zero17 130)
 have hz0 := h.below hB0
 have HE0 := Lib.hid (hE.step hB0)
 simp only [zero17] at kg hB0 hz0 HE0
 have HB0 := Lib.hid (But.of (X := fun k => k = b) hB0)
 have HZ0 := Lib.hid hz0
 have HK0 := Lib.hid kg
 have hne : ¬ W.heap.size = b := by omega
 have HBL := Lib.hid hbl
 clear h hE kg hB0 hz0 hbl
 go_enter Tryz.func199, Tryz.ntmps199
 go_wp2_with fail
 rcases hs : Dd.nameW l with _ | ⟨a0, l0⟩
 ·have HW := Lib.hid (show Dd.widthM l = none by simp [Dd.widthM, hs])
  have HX := Lib.hid hs
  clear hs
  refine (wname_any b l _ HZ0.out).mono ?_
  intro e w1 he
  obtain ⟨rfl, hb⟩ := he.none_ HX.out
  clear he
  go_wp2_with fail
  exact ⟨rfl, Wo.no HW.out (HB0.out.trans hb)⟩
 have HS0 := Lib.hid hs
 clear hs
 refine (wname_any b l _ HZ0.out).mono ?_
 intro e w1 he
 obtain ⟨rfl, hb, hz⟩ := he.some_ HS0.out
 have HB1 := Lib.hid (HB0.out.trans hb)
 have HZ1 := Lib.hid hz
 have HE1 := Lib.hid (HE0.out.but1 hb hg)
 have HK1 := Lib.hid (hb.bk HK0.out hne)
 clear he hb hz
 simp only [sv_def]
 go_wp2_with fail
 rcases hs : Dd.nameW l0 with _ | ⟨a1, l1⟩
 ·have HW := Lib.hid (show Dd.widthM l = none by simp [Dd.widthM, HS0.out, hs])
  have HX := Lib.hid hs
  clear hs
  refine (wname_any b l0 _ HZ1.out).mono ?_
  intro e w1 he
  obtain ⟨rfl, hb⟩ := he.none_ HX.out
  clear he
  go_wp2_with fail
  exact ⟨rfl, Wo.no HW.out (HB1.out.trans hb)⟩
 have HS1 := Lib.hid hs
 clear hs
 refine (wname_any b l0 _ HZ1.out).mono ?_
 intro e w2 he
 obtain ⟨rfl, hb, hz⟩ := he.some_ HS1.out
 have HB2 := Lib.hid (HB1.out.trans hb)
 have HZ2 := Lib.hid hz
 have HE2 := Lib.hid (HE1.out.but1 hb hg)
 have HK2 := Lib.hid (hb.bk HK1.out hne)
 clear he hb hz
 simp only [sv_def]
 go_wp2_with fail
 rcases hs : Dd.nameW l1 with _ | ⟨a2, l2⟩
 ·have HW := Lib.hid (show Dd.widthM l = none by simp [Dd.widthM, HS0.out, HS1.out, hs])
  have HX := Lib.hid hs
  clear hs
  refine (wname_any b l1 _ HZ2.out).mono ?_
  intro e w1 he
  obtain ⟨rfl, hb⟩ := he.none_ HX.out
  clear he
  go_wp2_with fail
  exact ⟨rfl, Wo.no HW.out (HB2.out.trans hb)⟩
 have HS2 := Lib.hid hs
 clear hs
 refine (wname_any b l1 _ HZ2.out).mono ?_
 intro e w3 he
 obtain ⟨rfl, hb, hz⟩ := he.some_ HS2.out
 have HB3 := Lib.hid (HB2.out.trans hb)
 have HZ3 := Lib.hid hz
 have HE3 := Lib.hid (HE2.out.but1 hb hg)
 have HK3 := Lib.hid (hb.bk HK2.out hne)
 clear he hb hz
 simp only [sv_def]
 go_wp2_with fail
 rcases hs : Dd.nnW l2 with _ | ⟨a3, l3⟩
 ·have HW := Lib.hid (show Dd.widthM l = none by simp [Dd.widthM, HS0.out, HS1.out, HS2.out, hs])
  have HX := Lib.hid hs
  clear hs
  refine (number_any b l2 _ (HE3.out) HZ3.out).mono ?_
  intro e w1 he
  obtain ⟨rfl, hb⟩ := he.none_ HX.out
  clear he
  go_wp2_with fail
  exact ⟨rfl, Wo.no HW.out (HB3.out.trans hb)⟩
 have HS3 := Lib.hid hs
 clear hs
 refine (number_any b l2 _ (HE3.out) HZ3.out).mono ?_
 intro e w4 he
 obtain ⟨rfl, hb, hz⟩ := he.some_ HS3.out
 have HB4 := Lib.hid (HB3.out.trans hb)
 have HZ4 := Lib.hid hz
 have HE4 := Lib.hid (HE3.out.but1 hb hg)
 have HK4 := Lib.hid (hb.bk HK3.out hne)
 clear he hb hz
 simp only [zv]
 go_wp2_with fail
 rcases hs : Dd.nnW l3 with _ | ⟨a4, l4⟩
 ·have HW := Lib.hid (show Dd.widthM l = none by simp [Dd.widthM, HS0.out, HS1.out, HS2.out, HS3.out, hs])
  have HX := Lib.hid hs
  clear hs
  refine (number_any b l3 _ (HE4.out) HZ4.out).mono ?_
  intro e w1 he
  obtain ⟨rfl, hb⟩ := he.none_ HX.out
  clear he
  go_wp2_with fail
  exact ⟨rfl, Wo.no HW.out (HB4.out.trans hb)⟩
 have HS4 := Lib.hid hs
 clear hs
 refine (number_any b l3 _ (HE4.out) HZ4.out).mono ?_
 intro e w5 he
 obtain ⟨rfl, hb, hz⟩ := he.some_ HS4.out
 have HB5 := Lib.hid (HB4.out.trans hb)
 have HZ5 := Lib.hid hz
 have HE5 := Lib.hid (HE4.out.but1 hb hg)
 have HK5 := Lib.hid (hb.bk HK4.out hne)
 clear he hb hz
 simp only [zv]
 go_wp2_with (refine wpList_store_row rfl 130 (.tmp 2) (.tmp 14) rfl W.heap.size _ rfl rfl 130 _ HK5.out (by kernel_rfl) rfl (by kernel_rfl) ?_)
 have hk := HK5.out.row (drcells ⟨a0, a1, a2, [], { Dd.ca0 with k := 2, s := a3, e := a4 }⟩).toArray
 have HW := Lib.hid (show Dd.widthM l = some (⟨a0, a1, a2, [], { Dd.ca0 with k := 2, s := a3, e := a4 }⟩, l4) by simp [Dd.widthM, HS0.out, HS1.out, HS2.out, HS3.out, HS4.out])
 have hB := But.row (X := fun k => k = b ∨ k = W.heap.size) (g := W.heap.size) (HB5.out.mono (fun k h => .inl h)) (.inr rfl) (drcells ⟨a0, a1, a2, [], { Dd.ca0 with k := 2, s := a3, e := a4 }⟩).toArray
 have hZ : Wz (World.setRow w5 W.heap.size (drcells ⟨a0, a1, a2, [], { Dd.ca0 with k := 2, s := a3, e := a4 }⟩).toArray) b l4 := HZ5.out.but (But.row (X := fun k => k = W.heap.size) (But.refl _ _) rfl _) (fun k hk e => by have := HBL.out; omega)
 refine bodyPost_ret (results_cell_row1 rfl _ _ W.heap.size 130 _ (0, 0) _ rfl hk Tryz.underlying130 rfl (by kernel_rfl)) rfl ?_
 exact Wo.yes (val := drval) HW.out ⟨hB.os, hB.tape, hB.output, hB.size, fun k h1 h2 => hB.block k h1 (by rintro (e | e) <;> omega)⟩ hZ
set_option maxHeartbeats 8000000 in
theorem along_any (b : Nat) (l : List Cs.Bs) (W : World) (hE : Env W) (h : Wz W b l) :
  Calls Tryz.prog 201 #[.pointer (some ⟨b, 0, none⟩)] W (Wo b W drval (Dd.alongM l)) := by
 have hg := h.g9
 have hbl := h.lt
 have kg := Bk.new W 130 zero17
 have hB0 := (Below.refl W.heap.size W).alloc (Nat.le_refl _) (.cells zero17 130)
 have hz0 := h.below hB0
 have HE0 := Lib.hid (hE.step hB0)
 simp only [zero17] at kg hB0 hz0 HE0
 have HB0 := Lib.hid (But.of (X := fun k => k = b) hB0)
 have HZ0 := Lib.hid hz0
 have HK0 := Lib.hid kg
 have hne : ¬ W.heap.size = b := by omega
 have HBL := Lib.hid hbl
 clear h hE kg hB0 hz0 hbl
 go_enter Tryz.func201, Tryz.ntmps201
 go_wp2_with fail
 rcases hs : Dd.nameW l with _ | ⟨a0, l0⟩
 ·have HW := Lib.hid (show Dd.alongM l = none by simp [Dd.alongM, hs])
  have HX := Lib.hid hs
  clear hs
  refine (wname_any b l _ HZ0.out).mono ?_
  intro e w1 he
  obtain ⟨rfl, hb⟩ := he.none_ HX.out
  clear he
  go_wp2_with fail
  exact ⟨rfl, Wo.no HW.out (HB0.out.trans hb)⟩
 have HS0 := Lib.hid hs
 clear hs
 refine (wname_any b l _ HZ0.out).mono ?_
 intro e w1 he
 obtain ⟨rfl, hb, hz⟩ := he.some_ HS0.out
 have HB1 := Lib.hid (HB0.out.trans hb)
 have HZ1 := Lib.hid hz
 have HE1 := Lib.hid (HE0.out.but1 hb hg)
 have HK1 := Lib.hid (hb.bk HK0.out hne)
 clear he hb hz
 simp only [sv_def]
 go_wp2_with fail
 rcases hs : Dd.nameW l0 with _ | ⟨a1, l1⟩
 ·have HW := Lib.hid (show Dd.alongM l = none by simp [Dd.alongM, HS0.out, hs])
  have HX := Lib.hid hs
  clear hs
  refine (wname_any b l0 _ HZ1.out).mono ?_
  intro e w1 he
  obtain ⟨rfl, hb⟩ := he.none_ HX.out
  clear he
  go_wp2_with fail
  exact ⟨rfl, Wo.no HW.out (HB1.out.trans hb)⟩
 have HS1 := Lib.hid hs
 clear hs
 refine (wname_any b l0 _ HZ1.out).mono ?_
 intro e w2 he
 obtain ⟨rfl, hb, hz⟩ := he.some_ HS1.out
 have HB2 := Lib.hid (HB1.out.trans hb)
 have HZ2 := Lib.hid hz
 have HE2 := Lib.hid (HE1.out.but1 hb hg)
 have HK2 := Lib.hid (hb.bk HK1.out hne)
 clear he hb hz
 simp only [sv_def]
 go_wp2_with fail
 rcases hs : Dd.nameW l1 with _ | ⟨a2, l2⟩
 ·have HW := Lib.hid (show Dd.alongM l = none by simp [Dd.alongM, HS0.out, HS1.out, hs])
  have HX := Lib.hid hs
  clear hs
  refine (wname_any b l1 _ HZ2.out).mono ?_
  intro e w1 he
  obtain ⟨rfl, hb⟩ := he.none_ HX.out
  clear he
  go_wp2_with fail
  exact ⟨rfl, Wo.no HW.out (HB2.out.trans hb)⟩
 have HS2 := Lib.hid hs
 clear hs
 refine (wname_any b l1 _ HZ2.out).mono ?_
 intro e w3 he
 obtain ⟨rfl, hb, hz⟩ := he.some_ HS2.out
 have HB3 := Lib.hid (HB2.out.trans hb)
 have HZ3 := Lib.hid hz
 have HE3 := Lib.hid (HE2.out.but1 hb hg)
 have HK3 := Lib.hid (hb.bk HK2.out hne)
 clear he hb hz
 simp only [sv_def]
 go_wp2_with fail
 rcases hs : Dd.nameW l2 with _ | ⟨a3, l3⟩
 ·have HW := Lib.hid (show Dd.alongM l = none by simp [Dd.alongM, HS0.out, HS1.out, HS2.out, hs])
  have HX := Lib.hid hs
  clear hs
  refine (wname_any b l2 _ HZ3.out).mono ?_
  intro e w1 he
  obtain ⟨rfl, hb⟩ := he.none_ HX.out
  clear he
  go_wp2_with fail
  exact ⟨rfl, Wo.no HW.out (HB3.out.trans hb)⟩
 have HS3 := Lib.hid hs
 clear hs
 refine (wname_any b l2 _ HZ3.out).mono ?_
 intro e w4 he
 obtain ⟨rfl, hb, hz⟩ := he.some_ HS3.out
 have HB4 := Lib.hid (HB3.out.trans hb)
 have HZ4 := Lib.hid hz
 have HE4 := Lib.hid (HE3.out.but1 hb hg)
 have HK4 := Lib.hid (hb.bk HK3.out hne)
 clear he hb hz
 simp only [sv_def]
 go_wp2_with (refine wpList_store_row rfl 130 (.tmp 2) (.tmp 12) rfl W.heap.size _ rfl rfl 130 _ HK4.out (by kernel_rfl) rfl (by kernel_rfl) ?_)
 have hk := HK4.out.row (drcells ⟨a0, a1, a2, a3, { Dd.ca0 with k := 4 }⟩).toArray
 have HW := Lib.hid (show Dd.alongM l = some (⟨a0, a1, a2, a3, { Dd.ca0 with k := 4 }⟩, l3) by simp [Dd.alongM, HS0.out, HS1.out, HS2.out, HS3.out])
 have hB := But.row (X := fun k => k = b ∨ k = W.heap.size) (g := W.heap.size) (HB4.out.mono (fun k h => .inl h)) (.inr rfl) (drcells ⟨a0, a1, a2, a3, { Dd.ca0 with k := 4 }⟩).toArray
 have hZ : Wz (World.setRow w4 W.heap.size (drcells ⟨a0, a1, a2, a3, { Dd.ca0 with k := 4 }⟩).toArray) b l3 := HZ4.out.but (But.row (X := fun k => k = W.heap.size) (But.refl _ _) rfl _) (fun k hk e => by have := HBL.out; omega)
 refine bodyPost_ret (results_cell_row1 rfl _ _ W.heap.size 130 _ (0, 0) _ rfl hk Tryz.underlying130 rfl (by kernel_rfl)) rfl ?_
 exact Wo.yes (val := drval) HW.out ⟨hB.os, hB.tape, hB.output, hB.size, fun k h1 h2 => hB.block k h1 (by rintro (e | e) <;> omega)⟩ hZ
set_option maxHeartbeats 8000000 in
theorem level_any (b : Nat) (l : List Cs.Bs) (W : World) (hE : Env W) (h : Wz W b l) :
  Calls Tryz.prog 202 #[.pointer (some ⟨b, 0, none⟩)] W (Wo b W drval (Dd.levelM l)) := by
 have hg := h.g9
 have hbl := h.lt
 have kg := Bk.new W 130 zero17
 have hB0 := (Below.refl W.heap.size W).alloc (Nat.le_refl _) (.cells zero17 130)
 have hz0 := h.below hB0
 have HE0 := Lib.hid (hE.step hB0)
 simp only [zero17] at kg hB0 hz0 HE0
 have HB0 := Lib.hid (But.of (X := fun k => k = b) hB0)
 have HZ0 := Lib.hid hz0
 have HK0 := Lib.hid kg
 have hne : ¬ W.heap.size = b := by omega
 have HBL := Lib.hid hbl
 clear h hE kg hB0 hz0 hbl
 go_enter Tryz.func202, Tryz.ntmps202
 go_wp2_with fail
 rcases hs : Dd.nameW l with _ | ⟨a0, l0⟩
 ·have HW := Lib.hid (show Dd.levelM l = none by simp [Dd.levelM, hs])
  have HX := Lib.hid hs
  clear hs
  refine (wname_any b l _ HZ0.out).mono ?_
  intro e w1 he
  obtain ⟨rfl, hb⟩ := he.none_ HX.out
  clear he
  go_wp2_with fail
  exact ⟨rfl, Wo.no HW.out (HB0.out.trans hb)⟩
 have HS0 := Lib.hid hs
 clear hs
 refine (wname_any b l _ HZ0.out).mono ?_
 intro e w1 he
 obtain ⟨rfl, hb, hz⟩ := he.some_ HS0.out
 have HB1 := Lib.hid (HB0.out.trans hb)
 have HZ1 := Lib.hid hz
 have HE1 := Lib.hid (HE0.out.but1 hb hg)
 have HK1 := Lib.hid (hb.bk HK0.out hne)
 clear he hb hz
 simp only [sv_def]
 go_wp2_with fail
 rcases hs : Dd.nameW l0 with _ | ⟨a1, l1⟩
 ·have HW := Lib.hid (show Dd.levelM l = none by simp [Dd.levelM, HS0.out, hs])
  have HX := Lib.hid hs
  clear hs
  refine (wname_any b l0 _ HZ1.out).mono ?_
  intro e w1 he
  obtain ⟨rfl, hb⟩ := he.none_ HX.out
  clear he
  go_wp2_with fail
  exact ⟨rfl, Wo.no HW.out (HB1.out.trans hb)⟩
 have HS1 := Lib.hid hs
 clear hs
 refine (wname_any b l0 _ HZ1.out).mono ?_
 intro e w2 he
 obtain ⟨rfl, hb, hz⟩ := he.some_ HS1.out
 have HB2 := Lib.hid (HB1.out.trans hb)
 have HZ2 := Lib.hid hz
 have HE2 := Lib.hid (HE1.out.but1 hb hg)
 have HK2 := Lib.hid (hb.bk HK1.out hne)
 clear he hb hz
 simp only [sv_def]
 go_wp2_with fail
 rcases hs : Dd.nameW l1 with _ | ⟨a2, l2⟩
 ·have HW := Lib.hid (show Dd.levelM l = none by simp [Dd.levelM, HS0.out, HS1.out, hs])
  have HX := Lib.hid hs
  clear hs
  refine (wname_any b l1 _ HZ2.out).mono ?_
  intro e w1 he
  obtain ⟨rfl, hb⟩ := he.none_ HX.out
  clear he
  go_wp2_with fail
  exact ⟨rfl, Wo.no HW.out (HB2.out.trans hb)⟩
 have HS2 := Lib.hid hs
 clear hs
 refine (wname_any b l1 _ HZ2.out).mono ?_
 intro e w3 he
 obtain ⟨rfl, hb, hz⟩ := he.some_ HS2.out
 have HB3 := Lib.hid (HB2.out.trans hb)
 have HZ3 := Lib.hid hz
 have HE3 := Lib.hid (HE2.out.but1 hb hg)
 have HK3 := Lib.hid (hb.bk HK2.out hne)
 clear he hb hz
 simp only [sv_def]
 go_wp2_with fail
 rcases hs : Dd.sgnW l2 with _ | ⟨a3, l3⟩
 ·have HW := Lib.hid (show Dd.levelM l = none by simp [Dd.levelM, HS0.out, HS1.out, HS2.out, hs])
  have HX := Lib.hid hs
  clear hs
  refine (signed_any b l2 _ (HE3.out) HZ3.out).mono ?_
  intro e w1 he
  obtain ⟨rfl, hb⟩ := he.none_ HX.out
  clear he
  go_wp2_with fail
  exact ⟨rfl, Wo.no HW.out (HB3.out.trans hb)⟩
 have HS3 := Lib.hid hs
 clear hs
 refine (signed_any b l2 _ (HE3.out) HZ3.out).mono ?_
 intro e w4 he
 obtain ⟨rfl, hb, hz⟩ := he.some_ HS3.out
 have HB4 := Lib.hid (HB3.out.trans hb)
 have HZ4 := Lib.hid hz
 have HE4 := Lib.hid (HE3.out.but1 hb hg)
 have HK4 := Lib.hid (hb.bk HK3.out hne)
 clear he hb hz
 simp only [zv]
 go_wp2_with fail
 rcases hs : Dd.nnW l3 with _ | ⟨a4, l4⟩
 ·have HW := Lib.hid (show Dd.levelM l = none by simp [Dd.levelM, HS0.out, HS1.out, HS2.out, HS3.out, hs])
  have HX := Lib.hid hs
  clear hs
  refine (number_any b l3 _ (HE4.out) HZ4.out).mono ?_
  intro e w1 he
  obtain ⟨rfl, hb⟩ := he.none_ HX.out
  clear he
  go_wp2_with fail
  exact ⟨rfl, Wo.no HW.out (HB4.out.trans hb)⟩
 have HS4 := Lib.hid hs
 clear hs
 refine (number_any b l3 _ (HE4.out) HZ4.out).mono ?_
 intro e w5 he
 obtain ⟨rfl, hb, hz⟩ := he.some_ HS4.out
 have HB5 := Lib.hid (HB4.out.trans hb)
 have HZ5 := Lib.hid hz
 have HE5 := Lib.hid (HE4.out.but1 hb hg)
 have HK5 := Lib.hid (hb.bk HK4.out hne)
 clear he hb hz
 simp only [zv]
 go_wp2_with (refine wpList_store_row rfl 130 (.tmp 2) (.tmp 14) rfl W.heap.size _ rfl rfl 130 _ HK5.out (by kernel_rfl) rfl (by kernel_rfl) ?_)
 have hk := HK5.out.row (drcells ⟨a0, [], a1, a2, { Dd.ca0 with k := 5, s := a3, e := a4 }⟩).toArray
 have HW := Lib.hid (show Dd.levelM l = some (⟨a0, [], a1, a2, { Dd.ca0 with k := 5, s := a3, e := a4 }⟩, l4) by simp [Dd.levelM, HS0.out, HS1.out, HS2.out, HS3.out, HS4.out])
 have hB := But.row (X := fun k => k = b ∨ k = W.heap.size) (g := W.heap.size) (HB5.out.mono (fun k h => .inl h)) (.inr rfl) (drcells ⟨a0, [], a1, a2, { Dd.ca0 with k := 5, s := a3, e := a4 }⟩).toArray
 have hZ : Wz (World.setRow w5 W.heap.size (drcells ⟨a0, [], a1, a2, { Dd.ca0 with k := 5, s := a3, e := a4 }⟩).toArray) b l4 := HZ5.out.but (But.row (X := fun k => k = W.heap.size) (But.refl _ _) rfl _) (fun k hk e => by have := HBL.out; omega)
 refine bodyPost_ret (results_cell_row1 rfl _ _ W.heap.size 130 _ (0, 0) _ rfl hk Tryz.underlying130 rfl (by kernel_rfl)) rfl ?_
 exact Wo.yes (val := drval) HW.out ⟨hB.os, hB.tape, hB.output, hB.size, fun k h1 h2 => hB.block k h1 (by rintro (e | e) <;> omega)⟩ hZ
end Go.Proofs.YtccikcpcfdjobaaGreatDoor
