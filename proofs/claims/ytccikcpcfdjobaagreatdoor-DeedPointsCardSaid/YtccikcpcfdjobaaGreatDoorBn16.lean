/-
  What the claims of layer deed need of the texts DSam, DPts, DLwm, DBm, DQa, DQn.
-/
import Derived.Test.YtccikcpcfdjobaaGreatDoorBn01
import Derived.Test.YtccikcpcfdjobaaGreatDoorBn15
import Derived.Test.YtccikcpcfdjobaaGreatDoorBn09
import Derived.Test.YtccikcpcfdjobaaGreatDoorBn06
set_option linter.unusedVariables false
set_option linter.unusedSimpArgs false
namespace Go.Proofs.YtccikcpcfdjobaaGreatDoor
namespace Dd
theorem pt_range {f : Fd} {l s : Int} (hl : isIx l f.li.length = true) (hs : isIx s f.st.length = true) : 1 ≤ pt f l s ∧ pt f l s < ptsN f := by
 simp only [isIx, decide_eq_true_eq] at hl hs
 obtain ⟨i, rfl⟩ : ∃ i : Nat, l = i := ⟨l.toNat, by omega⟩
 obtain ⟨j, rfl⟩ : ∃ i : Nat, s = i := ⟨s.toNat, by omega⟩
 have e : pt f i j = ((1 + i * f.st.length + j : Nat) : Int) := by unfold pt; simp
 have := row_lt (m := f.li.length) (n := f.st.length) (l := i) (s := j) (by omega) (by omega)
 have hN : ptsN f = 1 + f.li.length * f.st.length := rfl
 rw [e]
 omega
end Dd
end Go.Proofs.YtccikcpcfdjobaaGreatDoor

namespace Go.Proofs.YtccikcpcfdjobaaGreatDoor
open Go.RowKit
set_option maxRecDepth 100000
theorem fval_def (v : Fv) (f : Dd.Fd) : fval v f = .agg #[.slice v.a1 f.st.length v.c1, .slice v.a2 f.li.length v.c2, .slice v.a3 f.pa.length v.c3, .slice v.a4 f.va.length v.c4] := rfl
theorem mul_small {l : Int} {n : Nat} (h0 : 0 ≤ l) (h1 : l ≤ 1000000) (hn : n ≤ 1000000) : 0 ≤ l * (n : Int) ∧ l * (n : Int) ≤ 1000000000000 := by
 refine ⟨Int.mul_nonneg h0 (by omega), ?_⟩
 have := Int.mul_le_mul h1 (show (n : Int) ≤ 1000000 by omega) (by omega) (by omega)
 omega
theorem pointOf_any (v : Fv) (f : Dd.Fd) (l s : Int) (hn : f.st.length ≤ 1000000) (h0 : 0 ≤ l) (h1 : l ≤ 1000000) (h2 : 0 ≤ s) (h3 : s ≤ 1000000) (w : World) :
  Calls Tryz.prog 45 #[fval v f, .int .i64 l, .int .i64 s] w fun e w' => e = .returned (.int .i64 (Dd.pt f l s)) ∧ Below w.heap.size w w' := by
 have hd : Dd.pt f l s = 1 + l * f.st.length + s := rfl
 obtain ⟨m0, m1⟩ := mul_small h0 h1 hn
 rw [hd, fval_def]
 obtain ⟨P, hP⟩ : ∃ P, l * (f.st.length : Int) = P := ⟨_, rfl⟩
 rw [hP] at m0 m1 ⊢
 clear hd
 go_enter Tryz.func45, Tryz.ntmps45
 go_wp2_with fail
 go_ret
 exact ⟨rfl, (Below.refl _ _).alloc (Nat.le_refl _) _⟩
theorem pts_cast (f : Dd.Fd) : (Dd.ptsN f : Int) = 1 + (f.li.length : Int) * f.st.length := by
 unfold Dd.ptsN
 simp
theorem pointsOf_any (v : Fv) (f : Dd.Fd) (hn : f.st.length ≤ 1000000) (hm : f.li.length ≤ 1000000) (w : World) :
  Calls Tryz.prog 49 #[fval v f] w fun e w' => e = .returned (.int .i64 (Dd.ptsN f)) ∧ Below w.heap.size w w' := by
 obtain ⟨m0, m1⟩ := mul_small (l := f.li.length) (by omega) (by omega) hn
 rw [pts_cast, fval_def]
 obtain ⟨P, hP⟩ : ∃ P, (f.li.length : Int) * (f.st.length : Int) = P := ⟨_, rfl⟩
 rw [hP] at m0 m1 ⊢
 go_enter Tryz.func49, Tryz.ntmps49
 go_wp2_with fail
 go_ret
 exact ⟨rfl, (Below.refl _ _).alloc (Nat.le_refl _) _⟩
set_option maxHeartbeats 4000000 in
theorem Points_any (v : Fv) (f : Dd.Fd) (w : World) (hF : FRd w w.heap.size v f) : Calls Tryz.prog 39 #[fval v f] w fun e w' => e = .returned (.int .i64 (Dd.ptsF f)) ∧ Below w.heap.size w w' := by
 have hd : Dd.ptsF f = if Dd.fieldE f = 0 then (Dd.ptsN f : Int) else 0 := rfl
 have hl1 := hF.l1
 have hl2 := hF.l2
 have S0 := Lib.hid (Fs.new hF)
 have B0 := Lib.hid (fun W (h : Fs w w.heap.size v f W) => checkField_any v f W h.rd)
 have B1 := Lib.hid (fun W => pointsOf_any v f hl1 hl2 W)
 rw [hd]
 obtain ⟨N, hN⟩ : ∃ n : Int, (Dd.ptsN f : Int) = n := ⟨_, rfl⟩
 obtain ⟨ef, hef⟩ : ∃ e, Dd.fieldE f = e := ⟨_, rfl⟩
 rw [hef] at B0 ⊢
 rw [hN] at B1 ⊢
 simp only [fval_def] at B0 B1 ⊢
 obtain ⟨c0, c1, c2, c3, lg⟩ := S0.out.cells
 clear hd hF hef hN
 by_cases he : ef = 0
 ·subst he
  rw [if_pos rfl]
  go_enter Tryz.func39, Tryz.ntmps39
  go_wp2_with fail
  refine (B0.out _ S0.out).mono ?_
  rintro e w1 ⟨rfl, hb⟩
  have S1 := Lib.hid (S0.out.next hb)
  clear hb c0 c1 c2 c3 lg
  obtain ⟨c0, c1, c2, c3, lg⟩ := S1.out.cells
  go_wp2_with fail
  refine (B1.out _).mono ?_
  rintro e w2 ⟨rfl, hb⟩
  have S2 := Lib.hid (S1.out.next hb)
  clear hb c0 c1 c2 c3 lg
  go_wp2_with fail
  go_ret
  exact ⟨rfl, S2.out.b⟩
 ·rw [if_neg he]
  have hne : (ef != 0) = true := by simp [he]
  go_enter Tryz.func39, Tryz.ntmps39
  go_wp2_with fail
  refine (B0.out _ S0.out).mono ?_
  rintro e w1 ⟨rfl, hb⟩
  have S1 := Lib.hid (S0.out.next hb)
  clear hb c0 c1 c2 c3 lg
  go_wp2_with fail
  go_ret
  exact ⟨rfl, S1.out.b⟩
set_option maxHeartbeats 4000000 in
theorem Point_any (v : Fv) (f : Dd.Fd) (l s : Int) (w : World) (hF : FRd w w.heap.size v f) :
  Calls Tryz.prog 9 #[fval v f, .int .i64 l, .int .i64 s] w fun e w' => e = .returned (.tuple #[.int .i64 (Dd.pointF f l s).1, .int .i64 (Dd.pointF f l s).2]) ∧ Below w.heap.size w w' := by
 have hd : Dd.pointF f l s = if Dd.fieldE f ≠ 0 then (0, Dd.fieldE f) else if Dd.isIx l f.li.length && Dd.isIx s f.st.length then (Dd.pt f l s, 0) else (0, 1) := rfl
 have hl1 := hF.l1
 have hl2 := hF.l2
 have S0 := Lib.hid (Fs.new hF)
 have B0 := Lib.hid (fun W (h : Fs w w.heap.size v f W) => checkField_any v f W h.rd)
 have B1 := fun h0 h1 h2 h3 W => pointOf_any v f l s hl1 h0 h1 h2 h3 W
 obtain ⟨R, hR⟩ : ∃ R, Dd.pointF f l s = R := ⟨_, rfl⟩
 obtain ⟨ef, hef⟩ : ∃ e, Dd.fieldE f = e := ⟨_, rfl⟩
 rw [hR, hef] at hd
 rw [hR]
 rw [hef] at B0
 simp only [fval_def] at B0 B1 ⊢
 obtain ⟨c0, c1, c2, c3, lg⟩ := S0.out.cells
 clear hF hef hR
 by_cases he : ef = 0
 ·subst he
  rw [if_neg (by simp)] at hd
  rcases z1 : Dd.isIx l f.li.length with _ | _
  ·rw [z1, Bool.false_and, if_neg (by simp)] at hd
   subst hd
   have D1 := Lib.hid z1
   clear z1 B1
   go_enter Tryz.func9, Tryz.ntmps9
   go_wp2_with fail
   refine (B0.out _ S0.out).mono ?_
   rintro e w1 ⟨rfl, hb⟩
   have S1 := Lib.hid (S0.out.next hb)
   clear hb c0 c1 c2 c3 lg
   obtain ⟨c0, c1, c2, c3, lg⟩ := S1.out.cells
   go_wp2_with (go_at_call 44; refine (isIndex_any _ _ _).mono ?_; (first | rw [D1.out]); rintro e w' ⟨rfl, rfl⟩)
   go_ret2
   exact ⟨rfl, S1.out.b⟩
  ·rcases z2 : Dd.isIx s f.st.length with _ | _
   ·rw [z1, z2, Bool.true_and, if_neg (by simp)] at hd
    subst hd
    have D1 := Lib.hid z1
    have D2 := Lib.hid z2
    clear z1 z2 B1
    go_enter Tryz.func9, Tryz.ntmps9
    go_wp2_with fail
    refine (B0.out _ S0.out).mono ?_
    rintro e w1 ⟨rfl, hb⟩
    have S1 := Lib.hid (S0.out.next hb)
    clear hb c0 c1 c2 c3 lg
    obtain ⟨c0, c1, c2, c3, lg⟩ := S1.out.cells
    go_wp2_with (go_at_call 44; refine (isIndex_any _ _ _).mono ?_; (first | rw [D1.out] | rw [D2.out]); rintro e w' ⟨rfl, rfl⟩)
    go_ret2
    exact ⟨rfl, S1.out.b⟩
   ·rw [z1, z2, Bool.true_and, if_pos rfl] at hd
    subst hd
    have i1 := z1
    have i2 := z2
    simp only [Dd.isIx, decide_eq_true_eq] at i1 i2
    have D1 := Lib.hid z1
    have D2 := Lib.hid z2
    have B1 := Lib.hid (B1 i1.1 (by omega) i2.1 (by omega))
    obtain ⟨p, hp⟩ : ∃ p, Dd.pt f l s = p := ⟨_, rfl⟩
    rw [hp] at B1 ⊢
    clear z1 z2 hp i1 i2
    go_enter Tryz.func9, Tryz.ntmps9
    go_wp2_with fail
    refine (B0.out _ S0.out).mono ?_
    rintro e w1 ⟨rfl, hb⟩
    have S1 := Lib.hid (S0.out.next hb)
    clear hb c0 c1 c2 c3 lg
    obtain ⟨c0, c1, c2, c3, lg⟩ := S1.out.cells
    go_wp2_with (go_at_call 44; refine (isIndex_any _ _ _).mono ?_; (first | rw [D1.out] | rw [D2.out]); rintro e w' ⟨rfl, rfl⟩)
    refine (B1.out _).mono ?_
    rintro e w2 ⟨rfl, hb⟩
    have S2 := Lib.hid (S1.out.next hb)
    clear hb c0 c1 c2 c3 lg
    go_wp2_with fail
    go_ret2
    exact ⟨rfl, S2.out.b⟩
 ·rw [if_pos he] at hd
  subst hd
  have hne : (ef != 0) = true := by simp [he]
  clear B1
  go_enter Tryz.func9, Tryz.ntmps9
  go_wp2_with fail
  refine (B0.out _ S0.out).mono ?_
  rintro e w1 ⟨rfl, hb⟩
  have S1 := Lib.hid (S0.out.next hb)
  clear hb c0 c1 c2 c3 lg
  go_wp2_with fail
  go_ret2
  exact ⟨rfl, S1.out.b⟩
set_option maxHeartbeats 4000000 in
theorem Corner_any (v : Fv) (f : Dd.Fd) (p : Int) (hp64 : -9223372036854775808 ≤ p ∧ p ≤ 9223372036854775807) (w : World) (hF : FRd w w.heap.size v f) :
  Calls Tryz.prog 11 #[fval v f, .int .i64 p] w fun e w' => e = .returned (.tuple #[.int .i64 (Dd.cornerF f p).1, .int .i64 (Dd.cornerF f p).2.1, .int .i64 (Dd.cornerF f p).2.2]) ∧ Below w.heap.size w w' := by
 have hd : Dd.cornerF f p = if Dd.fieldE f ≠ 0 then (0, 0, Dd.fieldE f) else if 1 ≤ p ∧ p < Dd.ptsN f then ((p - 1) / f.st.length, (p - 1) % f.st.length, 0) else (0, 0, 1) := rfl
 have hl1 := hF.l1
 have hl2 := hF.l2
 have S0 := Lib.hid (Fs.new hF)
 have B0 := Lib.hid (fun W (h : Fs w w.heap.size v f W) => checkField_any v f W h.rd)
 have B1 := Lib.hid (fun W => pointsOf_any v f hl1 hl2 W)
 have hff := fun (h : Dd.fieldE f = 0) => Dd.field_facts h
 obtain ⟨m0, m1⟩ := mul_small (l := f.li.length) (by omega) (by omega) hl1
 have hNc := pts_cast f
 obtain ⟨N, hN⟩ : ∃ n : Int, (Dd.ptsN f : Int) = n := ⟨_, rfl⟩
 rw [hN] at hNc
 have hN0 : 0 ≤ N := by omega
 have hN1 : N ≤ 1000000000001 := by omega
 obtain ⟨R, hR⟩ : ∃ R, Dd.cornerF f p = R := ⟨_, rfl⟩
 obtain ⟨ef, hef⟩ : ∃ e, Dd.fieldE f = e := ⟨_, rfl⟩
 rw [hR, hef, hN] at hd
 rw [hR]
 rw [hef] at B0 hff
 rw [hN] at B1
 simp only [fval_def] at B0 B1 ⊢
 obtain ⟨c0, c1, c2, c3, lg⟩ := S0.out.cells
 clear hF hef hR hN m0 m1 hNc
 obtain ⟨p0, p1⟩ := hp64
 by_cases he : ef = 0
 ·subst he
  rw [if_neg (by simp)] at hd
  obtain ⟨_, f2, _⟩ := hff rfl
  clear hff
  rcases z1 : decide (1 ≤ p ∧ p ≤ N - 1) with _ | _
  ·rw [if_neg (by have := of_decide_eq_false z1; omega)] at hd
   subst hd
   have D1 := Lib.hid z1
   clear z1
   go_enter Tryz.func11, Tryz.ntmps11
   go_wp2_with fail
   refine (B0.out _ S0.out).mono ?_
   rintro e w1 ⟨rfl, hb⟩
   have S1 := Lib.hid (S0.out.next hb)
   clear hb c0 c1 c2 c3 lg
   obtain ⟨c0, c1, c2, c3, lg⟩ := S1.out.cells
   go_wp2_with fail
   refine (B1.out _).mono ?_
   rintro e w2 ⟨rfl, hb⟩
   have S2 := Lib.hid (S1.out.next hb)
   clear hb c0 c1 c2 c3 lg
   go_wp2_with (go_at_call 48; refine (dbetween_any _ _ _ _).mono ?_; (first | rw [D1.out]); rintro e w' ⟨rfl, rfl⟩)
   go_ret3
   exact ⟨rfl, S2.out.b⟩
  ·have hr := of_decide_eq_true z1
   rw [if_pos (by omega)] at hd
   subst hd
   have D1 := Lib.hid z1
   have hq : (p - 1).tdiv (f.st.length : Int) = (p - 1) / f.st.length := Int.tdiv_eq_ediv_of_nonneg (by omega)
   have hm : (p - 1).tmod (f.st.length : Int) = (p - 1) % f.st.length := Int.tmod_eq_emod_of_nonneg (by omega)
   have hnz : ¬ (f.st.length : Int) = 0 := by omega
   have hnz2 : ¬ f.st.length = 0 := by omega
   have q0 : 0 ≤ (p - 1) / (f.st.length : Int) := Int.ediv_nonneg (by omega) (by omega)
   have q1 : (p - 1) / (f.st.length : Int) ≤ p - 1 := Int.ediv_le_self _ (by omega)
   have pr0 : 1 ≤ p := hr.1
   have pr1 : p ≤ 1000000000001 := by omega
   clear z1 hr
   go_enter Tryz.func11, Tryz.ntmps11
   go_wp2_with fail
   refine (B0.out _ S0.out).mono ?_
   rintro e w1 ⟨rfl, hb⟩
   have S1 := Lib.hid (S0.out.next hb)
   clear hb c0 c1 c2 c3 lg
   obtain ⟨c0, c1, c2, c3, lg⟩ := S1.out.cells
   go_wp2_with fail
   refine (B1.out _).mono ?_
   rintro e w2 ⟨rfl, hb⟩
   have S2 := Lib.hid (S1.out.next hb)
   clear hb c0 c1 c2 c3 lg
   obtain ⟨c0, c1, c2, c3, lg⟩ := S2.out.cells
   go_upto_region 7 with (go_at_call 48; refine (dbetween_any _ _ _ _).mono ?_; (first | rw [D1.out]); rintro e w' ⟨rfl, rfl⟩)
   go_quiet (fail)
   go_wp2_with fail
   go_ret3
   exact ⟨rfl, ⟨S2.out.b.os, S2.out.b.tape, S2.out.b.output, S2.out.b.size, S2.out.b.block⟩⟩
 ·rw [if_pos he] at hd
  subst hd
  have hne : (ef != 0) = true := by simp [he]
  clear B1 hff
  go_enter Tryz.func11, Tryz.ntmps11
  go_wp2_with fail
  refine (B0.out _ S0.out).mono ?_
  rintro e w1 ⟨rfl, hb⟩
  have S1 := Lib.hid (S0.out.next hb)
  clear hb c0 c1 c2 c3 lg
  go_wp2_with fail
  go_ret3
  exact ⟨rfl, S1.out.b⟩
end Go.Proofs.YtccikcpcfdjobaaGreatDoor

namespace Go.Proofs.YtccikcpcfdjobaaGreatDoor
namespace Dd
theorem corner_at {f : Fd} (h : fieldE f = 0) {l s : Int} (hl : isIx l f.li.length = true) (hs : isIx s f.st.length = true) : cornerF f (pt f l s) = (l, s, 0) := by
 have hr := pt_range hl hs
 unfold cornerF
 rw [if_neg (by simpa using h), if_pos hr]
 simp only [isIx, decide_eq_true_eq] at hl hs
 unfold pt
 obtain ⟨n, hn⟩ : ∃ n : Int, (f.st.length : Int) = n := ⟨_, rfl⟩
 rw [hn] at hs ⊢
 have e : 1 + l * n + s - 1 = s + n * l := by rw [Int.mul_comm n l]; omega
 rw [e, Int.add_mul_ediv_left _ _ (by omega), Int.add_mul_emod_self_left, Int.ediv_eq_zero_of_lt hs.1 hs.2, Int.emod_eq_of_lt hs.1 hs.2]
 simp
theorem corner_ok {f : Fd} {p a b : Int} (h : cornerF f p = (a, b, 0)) : fieldE f = 0 ∧ 1 ≤ p ∧ p < ptsN f ∧ isIx a f.li.length = true ∧ isIx b f.st.length = true ∧ p = pt f a b := by
 unfold cornerF at h
 split at h
 ·rename_i h1
  simp only [Prod.mk.injEq] at h
  exact absurd h.2.2 h1
 ·rename_i h1
  split at h
  ·rename_i h2
   simp only [Prod.mk.injEq, and_true] at h
   obtain ⟨rfl, rfl⟩ := h
   have h0 : fieldE f = 0 := Decidable.not_not.1 h1
   obtain ⟨g1, g2, _⟩ := field_facts h0
   obtain ⟨k, rfl⟩ : ∃ k : Nat, p = k := ⟨p.toNat, by omega⟩
   have hN : ptsN f = 1 + f.li.length * f.st.length := rfl
   obtain ⟨l, s, hl, hs, e⟩ := row_of (m := f.li.length) (n := f.st.length) (p := k) (by omega) (by omega)
   have hli : isIx (l : Int) f.li.length = true := by simp only [isIx, decide_eq_true_eq]; omega
   have hsi : isIx (s : Int) f.st.length = true := by simp only [isIx, decide_eq_true_eq]; omega
   have ept : ((k : Nat) : Int) = pt f l s := by rw [e]; unfold pt; simp
   have hc := corner_at h0 hli hsi
   rw [← ept] at hc
   unfold cornerF at hc
   rw [if_neg h1, if_pos h2] at hc
   simp only [Prod.mk.injEq, and_true] at hc
   rw [hc.1, hc.2]
   exact ⟨h0, h2.1, h2.2, hli, hsi, ept⟩
  ·simp only [Prod.mk.injEq] at h
   omega
def keepsI (y : List Int) (b : Bd) : Bool := decide (0 ≤ b.f ∧ b.f < y.length) && decide (0 ≤ b.t ∧ b.t < y.length) && keepsB y b
theorem nat_in {f : Fd} {b : Bd} (h : b ∈ nat f) (h1 : 1 ≤ f.li.length) : (0 ≤ b.f ∧ b.f < ptsN f) ∧ 0 ≤ b.t ∧ b.t < ptsN f := by
 have hN : ptsN f = 1 + f.li.length * f.st.length := rfl
 rcases List.mem_append.1 h with h | h
 ·obtain ⟨q, q1, q2, rfl | rfl⟩ := natP_mem.1 h
  ·dsimp only; omega
  ·dsimp only; omega
 ·obtain ⟨q, s, q1, q2, q3, rfl⟩ := natL_mem.1 h
  have a := row_lt (m := f.li.length) (n := f.st.length) (l := q) (s := s) (by omega) q3
  have b := row_lt (m := f.li.length) (n := f.st.length) (l := q + 1) (s := s) (by omega) q3
  dsimp only
  omega
theorem drw_keeps {f : Fd} (hf : fieldE f = 0) (y : List Int) : drw f y = (decide (y.length = ptsN f) && decide (at_ y 0 = 0) && (nat f).all (keepsI y)) := by
 obtain ⟨h1, h2, _⟩ := field_facts hf
 have hN : ptsN f = 1 + f.li.length * f.st.length := rfl
 rw [Bool.eq_iff_iff]
 constructor
 ·intro h
  unfold drw at h
  simp only [Bool.and_eq_true, decide_eq_true_eq, List.all_eq_true] at h ⊢
  refine ⟨h.1.1, fun b hb => ?_⟩
  have := nat_in hb h1
  unfold keepsI
  rw [h.2 b hb, decide_eq_true (by omega), decide_eq_true (by omega)]
  rfl
 ·intro h
  simp only [Bool.and_eq_true, decide_eq_true_eq, List.all_eq_true] at h
  obtain ⟨⟨a1, a2⟩, a3⟩ := h
  have key : ∀ b ∈ nat f, keepsB y b = true := fun b hb => by
   have := a3 b hb
   unfold keepsI at this
   simp only [Bool.and_eq_true] at this
   exact this.2
  have hv : ∀ p : Nat, 1 ≤ p → p < ptsN f → 0 ≤ at_ y (p : Int) ∧ at_ y (p : Int) ≤ 100000 := fun p q1 q2 => by
   have b1 := key ⟨0, p, 100000, 0⟩ (List.mem_append_left _ (natP_mem.2 ⟨p, by omega, by omega, .inl rfl⟩))
   have b2 := key ⟨p, 0, 0, 0⟩ (List.mem_append_left _ (natP_mem.2 ⟨p, by omega, by omega, .inr rfl⟩))
   simp only [keepsB, decide_eq_true_eq] at b1 b2
   omega
  unfold drw
  simp only [Bool.and_eq_true, decide_eq_true_eq, List.all_eq_true]
  refine ⟨⟨⟨a1, a2⟩, fun v hm => ?_⟩, key⟩
  obtain ⟨i, hi, rfl⟩ := List.getElem_of_mem hm
  have e : at_ y (i : Int) = y[i] := by rw [at_nat]; simp [hi]
  by_cases i0 : i = 0
  ·subst i0
   rw [← e]
   have : at_ y ((0 : Nat) : Int) = 0 := a2
   omega
  ·have := hv i (by omega) (by omega)
   omega
end Dd
end Go.Proofs.YtccikcpcfdjobaaGreatDoor

namespace Go.Proofs.YtccikcpcfdjobaaGreatDoor
namespace Dd
theorem flat2_len {α β : Type} {g : α → List β} (hg : ∀ a, (g a).length = 2) (l : List α) : (l.flatMap g).length = 2 * l.length := by
 induction l with
 | nil => rfl
 | cons a t ih => rw [List.flatMap_cons, List.length_append, hg, ih, List.length_cons]; omega
theorem flat2_at {α β : Type} {g : α → List β} (hg : ∀ a, (g a).length = 2) (l : List α) {k j : Nat} (hk : k < l.length) (hj : j < 2) : (l.flatMap g)[2 * k + j]? = (g l[k])[j]? := by
  induction l generalizing k with
  | nil => simp at hk
  | cons a t ih =>
    rw [List.flatMap_cons]
    cases k with
    | zero =>
      rw [List.getElem?_append_left (by rw [hg]; omega)]
      simp
    | succ k =>
      rw [List.getElem?_append_right (by rw [hg]; omega), hg, show 2 * (k + 1) + j - 2 = 2 * k + j by omega]
      simpa using ih (k := k) (by simpa using hk)
theorem bnds_len (f : Fd) (x : Ca) (r : Int) : (bnds f x r).length = 2 * (gapsF f x).length := flat2_len (fun _ => rfl) _
abbrev Ib (f : Fd) (x : Ca) (r : Int) : Type := { b : Bd // b ∈ bnds f x r }
theorem bnds_at (f : Fd) (x : Ca) (r : Int) {k : Nat} (hk : k < (gapsF f x).length) :
  ∃ (h1 : (⟨(gapsF f x)[k].1, (gapsF f x)[k].2.1, (gapsF f x)[k].2.2.2, r⟩ : Bd) ∈ bnds f x r) (h2 : (⟨(gapsF f x)[k].2.1, (gapsF f x)[k].1, -(gapsF f x)[k].2.2.1, r⟩ : Bd) ∈ bnds f x r),
   (bnds f x r).attach.take (2 * k) ++ [⟨_, h1⟩] = (bnds f x r).attach.take (2 * k + 1) ∧ (bnds f x r).attach.take (2 * k + 1) ++ [⟨_, h2⟩] = (bnds f x r).attach.take (2 * (k + 1)) := by
 have e1 : (bnds f x r)[2 * k + 0]? = some ⟨(gapsF f x)[k].1, (gapsF f x)[k].2.1, (gapsF f x)[k].2.2.2, r⟩ := flat2_at (g := pairB r) (fun _ => rfl) _ hk (by decide)
 have e2 : (bnds f x r)[2 * k + 1]? = some ⟨(gapsF f x)[k].2.1, (gapsF f x)[k].1, -(gapsF f x)[k].2.2.1, r⟩ := flat2_at (g := pairB r) (fun _ => rfl) _ hk (by decide)
 rw [Nat.add_zero] at e1
 obtain ⟨g1, e1⟩ := List.getElem?_eq_some_iff.1 e1
 obtain ⟨g2, e2⟩ := List.getElem?_eq_some_iff.1 e2
 have m1 : (⟨(gapsF f x)[k].1, (gapsF f x)[k].2.1, (gapsF f x)[k].2.2.2, r⟩ : Bd) ∈ bnds f x r := by rw [← e1]; exact List.getElem_mem g1
 have m2 : (⟨(gapsF f x)[k].2.1, (gapsF f x)[k].1, -(gapsF f x)[k].2.2.1, r⟩ : Bd) ∈ bnds f x r := by rw [← e2]; exact List.getElem_mem g2
 refine ⟨m1, m2, ?_, ?_⟩
 ·have : (bnds f x r).attach[2 * k]? = some ⟨_, m1⟩ := by simp [g1, e1]
  rw [List.take_add_one, this]
  rfl
 ·have : (bnds f x r).attach[2 * k + 1]? = some ⟨_, m2⟩ := by simp [g2, e2]
  rw [show 2 * (k + 1) = (2 * k + 1) + 1 by omega, List.take_add_one (i := 2 * k + 1), this]
  rfl
theorem bnds_of (f : Fd) (x : Ca) (r : Int) {k : Nat} (hk : k < (gapsF f x).length) {p q lo hi : Int} (hg : (gapsF f x)[k] = (p, q, lo, hi)) :
  ∃ (h1 : (⟨p, q, hi, r⟩ : Bd) ∈ bnds f x r) (h2 : (⟨q, p, -lo, r⟩ : Bd) ∈ bnds f x r),
   (bnds f x r).attach.take (2 * k) ++ [⟨_, h1⟩] = (bnds f x r).attach.take (2 * k + 1) ∧ (bnds f x r).attach.take (2 * k + 1) ++ [⟨_, h2⟩] = (bnds f x r).attach.take (2 * (k + 1)) := by
 have h := bnds_at f x r hk
 rw [hg] at h
 exact h
theorem along_zero {f : Fd} {c : Ca} {g : Int × Int × Int × Int} : ∀ (n : Nat) (s : Int), g ∈ gapAlong f c n s → g.2.2.1 = 0
  | 0, s, h => by cases h
  | n + 1, s, h => by
    rcases List.mem_cons.1 h with rfl | h
    · rfl
    · exact along_zero n (s + 1) h
theorem gaps_low {f : Fd} {x : Ca} (h : callE f x = 0) {g : Int × Int × Int × Int} (hg : g ∈ gapsF f x) : -1000000 ≤ g.2.2.1 ∧ g.2.2.1 ≤ 1000000 := by
 have hG : callG f x = 0 := by
  unfold callE at h
  by_cases h0 : fieldE f = 0
  ·rwa [if_neg (by simp [h0])] at h
  ·rw [if_pos h0] at h; exact absurd h h0
 obtain ⟨ht, ho, hb, h3⟩ := callG_zero hG
 simp only [there, Bool.and_eq_true, decide_eq_true_eq] at ht
 obtain ⟨⟨_, t5⟩, t6⟩ := ht
 unfold gapsF at hg
 split at hg
 ·rw [List.mem_singleton] at hg; subst hg; dsimp only; omega
 ·split at hg
  ·rw [List.mem_singleton] at hg; subst hg; dsimp only; omega
  ·split at hg
   ·rename_i k3
    rw [List.mem_singleton] at hg
    subst hg
    dsimp only
    obtain ⟨e1, e2⟩ := h3 k3
    have he : Cs.eastE f.va [x.c] (run f x) = 0 := by
     rcases Int.decEq (Cs.eastE f.va [x.c] (run f x)) 0 with h | h
     ·rw [Cs.comF_err1 h] at e1; exact absurd e1 h
     ·exact h
    rw [Cs.comF_zero he]
    have hr := Cs.comG_range f.va (dx := run f x) [x.c] (-100000) 100000 (by decide) (by decide) (by decide)
    dsimp only
    omega
   ·split at hg
    ·rw [List.mem_singleton] at hg; subst hg; dsimp only; omega
    ·have := along_zero _ _ hg
     omega
theorem alongN (f : Fd) (c : Ca) : ∀ (n : Nat) (s : Int), (gapAlong f c n s).length = n
 | 0, _ => rfl
 | n + 1, s => by rw [gapAlong, List.length_cons, alongN f c n (s + 1)]
theorem gaps_len {f : Fd} {x : Ca} (h : callE f x = 0) : (gapsF f x).length ≤ f.st.length + 1 := by
 have hG : callG f x = 0 := by
  unfold callE at h
  by_cases h0 : fieldE f = 0
  ·rwa [if_neg (by simp [h0])] at h
  ·rw [if_pos h0] at h; exact absurd h h0
 have ht := (callG_zero hG).1
 simp only [there, isIx, Bool.and_eq_true, decide_eq_true_eq] at ht
 unfold gapsF
 split
 ·simp
 ·split
  ·simp
  ·split
   ·simp
   ·split
    ·simp
    ·rw [alongN]
     omega
end Dd
end Go.Proofs.YtccikcpcfdjobaaGreatDoor

namespace Go.Proofs.YtccikcpcfdjobaaGreatDoor
open Go.RowKit
set_option maxRecDepth 100000
theorem qWithin_any (n a b : Int) (w : World) : Calls Tryz.prog 51 #[.int .i64 n, .int .i64 a, .int .i64 b] w fun e w' => e = .returned (.bool (decide (a ≤ n ∧ n ≤ b))) ∧ w' = w := by
 by_cases h1 : a ≤ n
 ·have d1 : decide (n ≥ a) = true := decide_eq_true h1
  by_cases h2 : n ≤ b
  ·have d2 : decide (n ≤ b) = true := decide_eq_true h2
   have HR := Lib.hid (show decide (a ≤ n ∧ n ≤ b) = true from decide_eq_true ⟨h1, h2⟩)
   rw [HR.out]
   clear h1 h2
   go_enter Tryz.func51, Tryz.ntmps51
   go_wp2_with fail
   go_ret
   exact ⟨rfl, rfl⟩
  ·have d2 : decide (n ≤ b) = false := decide_eq_false h2
   have HR := Lib.hid (show decide (a ≤ n ∧ n ≤ b) = false from decide_eq_false (by omega))
   rw [HR.out]
   clear h1 h2
   go_enter Tryz.func51, Tryz.ntmps51
   go_wp2_with fail
   go_ret
   exact ⟨rfl, rfl⟩
 ·have d1 : decide (n ≥ a) = false := decide_eq_false h1
  have HR := Lib.hid (show decide (a ≤ n ∧ n ≤ b) = false from decide_eq_false (by omega))
  rw [HR.out]
  clear h1
  go_enter Tryz.func51, Tryz.ntmps51
  go_wp2_with fail
  go_ret
  exact ⟨rfl, rfl⟩
set_option maxHeartbeats 2000000 in
theorem qPlace_any (A : Option Addr) (c : Nat) (l : List Cs.Bs) (s : Cs.Bs) (w : World) (hR : Rd w w.heap.size 1 A l.length (wcells l)) (hl : l.length ≤ 1000000) :
  Calls Tryz.prog 88 #[.slice A l.length c, .string ⟨s.toArray⟩] w fun e w' => e = .returned (.int .i64 (Dd.idxP (fun x => decide (x = s)) l 0)) ∧ Below w.heap.size w w' := by
 have HR := Lib.hid hR
 obtain ⟨R, hRR⟩ : ∃ R, Dd.idxP (fun x => decide (x = s)) l 0 = R := ⟨_, rfl⟩
 rw [hRR]
 have HRR := Lib.hid hRR
 clear hR hRR
 go_enter Tryz.func88, Tryz.ntmps88
 go_wp2_with fail
 go_loopw [5] (fun I wr => ∃ k : Nat, k ≤ l.length ∧ I = .int .i64 k ∧ (∀ j (h : j < l.length), j < k → decide (l[j] = s) = false) ∧ Below w.heap.size w wr) (fun I _ => l.length - (intOf I).toNat)
 case atStart => exact ⟨0, Nat.zero_le _, rfl, (fun j h hj => absurd hj (by omega)), Below.refl _ _⟩
 case round =>
  obtain ⟨k, hk, rfl, ha, hB⟩ := hrel
  have HA := Lib.hid ha
  have HB := Lib.hid hB
  clear ha hB
  by_cases hlt : k < l.length
  ·obtain ⟨b, off, rfl, hb, e0⟩ := (HR.out.below HB.out (Nat.le_refl _)).text hlt
   have hb2 : b < wr.heap.size := Nat.lt_of_lt_of_le hb HB.out.size
   obtain ⟨x, hx⟩ : ∃ x, l[k] = x := ⟨_, rfl⟩
   rw [hx] at e0
   have HX := Lib.hid hx
   by_cases hxs : x = s
   ·have HRK := Lib.hid (show R = k by rw [← HRR.out]; exact Dd.idxP_at hlt (by rw [HX.out]; exact decide_eq_true hxs) (fun j hj => HA.out j (by omega) hj))
    subst hxs
    clear hx
    go_wp2_with fail
    go_ret
    exact ⟨ret_int HRK.out.symm, HB.out⟩
   ·have HXS := Lib.hid hxs
    clear hx
    have hbe : (x == s) = false := by simpa using hxs
    clear hxs
    go_wp2_with fail
    go_roundw
    case rel =>
     refine ⟨k + 1, by omega, by go_num, fun j h hj => ?_, HB.out⟩
     by_cases e : j = k
     ·subst e
      rw [HX.out]
      exact decide_eq_false HXS.out
     ·exact HA.out j h (by omega)
    case measure => simp [intOf]; omega
  ·have HRK := Lib.hid (show R = -1 by rw [← HRR.out]; exact Dd.idxP_no (fun j h => HA.out j h (by omega)))
   obtain rfl : k = l.length := by omega
   go_wp2_with fail
   go_ret
   exact ⟨ret_int HRK.out.symm, HB.out⟩
def Dd.comQ (p q : Dd.Pa) : Int := max 0 (min p.east q.east - max p.west q.west + 1)
theorem Dd.comQ_facing (p q : Dd.Pa) : decide (1 < Dd.comQ p q) = Dd.facing p q := by
 unfold Dd.comQ Dd.facing
 rw [Bool.eq_iff_iff]
 simp only [decide_eq_true_eq]
 omega
def Dd.Small (p : Dd.Pa) : Prop := -1000000 ≤ p.west ∧ p.west ≤ 1000000 ∧ -1000000 ≤ p.east ∧ p.east ≤ 1000000
set_option maxHeartbeats 1000000 in
theorem qCommon_any (p q : Dd.Pa) (hp : Dd.Small p) (hq : Dd.Small q) (w : World) : Calls Tryz.prog 52 #[.agg #[.string ⟨p.name.toArray⟩, .int .i64 p.south, .int .i64 p.west, .int .i64 p.east], .agg #[.string ⟨q.name.toArray⟩, .int .i64 q.south, .int .i64 q.west, .int .i64 q.east]] w
  fun e w' => e = .returned (.int .i64 (Dd.comQ p q)) ∧ Below w.heap.size w w' := by
 obtain ⟨p1, p2, p3, p4⟩ := hp
 obtain ⟨q1, q2, q3, q4⟩ := hq
 have hd : Dd.comQ p q = max 0 (min p.east q.east - max p.west q.west + 1) := rfl
 obtain ⟨n1, s1, a1, b1⟩ := p
 obtain ⟨n2, s2, a2, b2⟩ := q
 dsimp only at p1 p2 p3 p4 q1 q2 q3 q4 hd ⊢
 have hw1 : IntKind.i64.wrap (min b1 b2 - max a1 a2) = min b1 b2 - max a1 a2 := IntWalk.i64_in _ (by omega)
 have hw2 : IntKind.i64.wrap (min b1 b2 - max a1 a2 + 1) = min b1 b2 - max a1 a2 + 1 := IntWalk.i64_in _ (by omega)
 have HD := Lib.hid hd
 obtain ⟨R, hR⟩ : ∃ R, Dd.comQ ⟨n1, s1, a1, b1⟩ ⟨n2, s2, a2, b2⟩ = R := ⟨_, rfl⟩
 rw [hR] at HD ⊢
 clear hd hR p1 p2 p3 p4 q1 q2 q3 q4
 go_enter Tryz.func52, Tryz.ntmps52
 go_wp2_with fail
 go_ret
 exact ⟨ret_int HD.out.symm, ((Below.refl _ _).alloc (Nat.le_refl _) _).alloc (by simp) _⟩
set_option maxHeartbeats 1000000 in
theorem qPoint_any (v : Fv) (f : Dd.Fd) (l s : Int) (hn : f.st.length ≤ 1000000) (h0 : 0 ≤ l) (h1 : l ≤ 1000000) (h2 : 0 ≤ s) (h3 : s ≤ 1000000) (w : World) :
  Calls Tryz.prog 47 #[fval v f, .int .i64 l, .int .i64 s] w fun e w' => e = .returned (.int .i64 (Dd.pt f l s)) ∧ Below w.heap.size w w' := by
 have hd : Dd.pt f l s = 1 + l * f.st.length + s := rfl
 obtain ⟨m0, m1⟩ := mul_small h0 h1 hn
 rw [hd, fval_def]
 obtain ⟨P, hP⟩ : ∃ P, l * (f.st.length : Int) = P := ⟨_, rfl⟩
 rw [hP] at m0 m1 ⊢
 clear hd
 go_enter Tryz.func47, Tryz.ntmps47
 go_wp2_with fail
 go_ret
 exact ⟨rfl, (Below.refl _ _).alloc (Nat.le_refl _) _⟩
set_option maxHeartbeats 1000000 in
theorem qCorner_any (v : Fv) (f : Dd.Fd) (l s : Int) (hn : f.st.length ≤ 1000000) (hm : f.li.length ≤ 1000000) (w : World) :
  Calls Tryz.prog 46 #[fval v f, .int .i64 l, .int .i64 s] w fun e w' => e = .returned (.bool (Dd.isIx l f.li.length && Dd.isIx s f.st.length)) ∧ Below w.heap.size w w' := by
 have h1 : decide (0 ≤ l ∧ l ≤ (f.li.length : Int) - 1) = Dd.isIx l f.li.length := by unfold Dd.isIx; rw [Bool.eq_iff_iff]; simp only [decide_eq_true_eq]; omega
 have h2 : decide (0 ≤ s ∧ s ≤ (f.st.length : Int) - 1) = Dd.isIx s f.st.length := by unfold Dd.isIx; rw [Bool.eq_iff_iff]; simp only [decide_eq_true_eq]; omega
 have H1 := Lib.hid (fun W => h1 ▸ qWithin_any l 0 ((f.li.length : Int) - 1) W)
 have H2 := Lib.hid (fun W => h2 ▸ qWithin_any s 0 ((f.st.length : Int) - 1) W)
 rw [fval_def]
 obtain ⟨p, hp⟩ : ∃ p, Dd.isIx l f.li.length = p := ⟨_, rfl⟩
 obtain ⟨q, hq⟩ : ∃ p, Dd.isIx s f.st.length = p := ⟨_, rfl⟩
 rw [hp] at H1 ⊢
 rw [hq] at H2 ⊢
 have HB := Lib.hid ((Below.refl w.heap.size w).alloc (Nat.le_refl _) (.cells #[.slice v.a1 f.st.length v.c1, .slice v.a2 f.li.length v.c2, .slice v.a3 f.pa.length v.c3, .slice v.a4 f.va.length v.c4] 27))
 clear h1 h2 hp hq
 rcases p with _ | _
 ·go_enter Tryz.func46, Tryz.ntmps46
  go_wp2_with fail
  refine (H1.out _).mono ?_
  rintro e w' ⟨rfl, rfl⟩
  go_wp2_with fail
  go_ret
  exact ⟨rfl, HB.out⟩
 ·go_enter Tryz.func46, Tryz.ntmps46
  go_wp2_with fail
  refine (H1.out _).mono ?_
  rintro e w' ⟨rfl, rfl⟩
  go_wp2_with fail
  refine (H2.out _).mono ?_
  rintro e w' ⟨rfl, rfl⟩
  go_wp2_with fail
  go_ret
  exact ⟨by rw [Bool.true_and]; rfl, HB.out⟩
end Go.Proofs.YtccikcpcfdjobaaGreatDoor

namespace Go.Proofs.YtccikcpcfdjobaaGreatDoor
open Go.RowKit
set_option maxRecDepth 100000
theorem qbyte {l : Cs.Bs} {k : Nat} (hk : k < l.length) (h : k < (⟨l.toArray⟩ : ByteArray).size) : (⟨l.toArray⟩ : ByteArray)[k] = l[k] := rfl
set_option maxHeartbeats 4000000 in
theorem qName_any (s : Cs.Bs) (hs : s.length ≤ 1000000) (w : World) : Calls Tryz.prog 87 #[.string ⟨s.toArray⟩] w fun e w' => e = .returned (.bool (Dd.nameF s)) ∧ Below w.heap.size w w' := by
 have hbs : (⟨s.toArray⟩ : ByteArray).size = s.length := by show s.toArray.size = _; simp
 obtain ⟨R, hR⟩ : ∃ R, Dd.nameF s = R := ⟨_, rfl⟩
 rw [hR]
 have HR := Lib.hid hR
 clear hR
 by_cases h0 : s.length < 1
 ·have d1 : decide ((s.length : Int) < 1) = true := decide_eq_true (by omega)
  have HRF := Lib.hid (show R = false by
   rw [← HR.out]
   obtain rfl : s = [] := by cases s with | nil => rfl | cons a b => simp at h0
   rfl)
  go_enter Tryz.func87, Tryz.ntmps87
  go_wp2_with fail
  go_ret
  exact ⟨ret_bool HRF.out.symm, Below.refl _ _⟩
 have d1 : decide ((s.length : Int) < 1) = false := decide_eq_false (by omega)
 by_cases h1 : 24 < s.length
 ·have d2 : decide ((s.length : Int) > 24) = true := decide_eq_true (by omega)
  have HRF := Lib.hid (show R = false by
   rw [← HR.out]
   unfold Dd.nameF
   rw [decide_eq_false (by omega), Bool.false_and, Bool.false_and])
  go_enter Tryz.func87, Tryz.ntmps87
  go_wp2_with fail
  go_ret
  exact ⟨ret_bool HRF.out.symm, Below.refl _ _⟩
 have d2 : decide ((s.length : Int) > 24) = false := decide_eq_false (by omega)
 have h00 : 0 < s.length := by omega
 have hb0 := fun h => qbyte h00 h
 have hhead : Dd.headF s = Dd.isLet s[0] := by cases s with | nil => simp at h00 | cons a b => rfl
 have hsz0 : 0 < (⟨s.toArray⟩ : ByteArray).size := by omega
 have hc := (s[0]).toNat_lt
 have hlet : Dd.isLet s[0] = decide (97 ≤ (s[0]).toNat ∧ (s[0]).toNat ≤ 122) := rfl
 obtain ⟨c, hcc⟩ : ∃ c, s[0] = c := ⟨_, rfl⟩
 rw [hcc] at hhead hc hlet
 simp only [hcc] at hb0
 obtain ⟨m, hm⟩ : ∃ m, c.toNat = m := ⟨_, rfl⟩
 rw [hm] at hc hlet
 have HHEAD := Lib.hid (hhead.trans hlet)
 clear hhead hlet hcc
 by_cases h2 : m < 97
 ·have d3 : decide ((m : Int) < 97) = true := decide_eq_true (by omega)
  have HRF := Lib.hid (show R = false by
   rw [← HR.out]
   unfold Dd.nameF
   rw [HHEAD.out, decide_eq_false (p := 97 ≤ m ∧ m ≤ 122) (by omega), Bool.and_false, Bool.false_and])
  go_enter Tryz.func87, Tryz.ntmps87
  go_wp2_with fail
  go_ret
  exact ⟨ret_bool HRF.out.symm, Below.refl _ _⟩
 have d3 : decide ((m : Int) < 97) = false := decide_eq_false (by omega)
 by_cases h3 : 122 < m
 ·have d4 : decide ((m : Int) > 122) = true := decide_eq_true (by omega)
  have HRF := Lib.hid (show R = false by
   rw [← HR.out]
   unfold Dd.nameF
   rw [HHEAD.out, decide_eq_false (p := 97 ≤ m ∧ m ≤ 122) (by omega), Bool.and_false, Bool.false_and])
  go_enter Tryz.func87, Tryz.ntmps87
  go_wp2_with fail
  go_ret
  exact ⟨ret_bool HRF.out.symm, Below.refl _ _⟩
 have d4 : decide ((m : Int) > 122) = false := decide_eq_false (by omega)
 have HALL := Lib.hid (show R = s.all Dd.nameC by
  rw [← HR.out]
  unfold Dd.nameF
  rw [HHEAD.out, decide_eq_true (p := 97 ≤ m ∧ m ≤ 122) (by omega), decide_eq_true (by omega), Bool.true_and, Bool.true_and])
 clear HR h0 h1 h2 h3 hc HHEAD
 go_enter Tryz.func87, Tryz.ntmps87
 go_wp2_with fail
 clear hb0 d1 d2 d3 d4 hm hsz0
 go_loopw [3] (fun I wr => ∃ k : Nat, k ≤ s.length ∧ I = .int .i64 k ∧ wr = w ∧ ∀ j (h : j < s.length), j < k → Dd.nameC s[j] = true) (fun I _ => s.length - (intOf I).toNat)
 case atStart => exact ⟨0, Nat.zero_le _, rfl, rfl, fun j h hj => absurd hj (by omega)⟩
 case round =>
  obtain ⟨k, hk, rfl, rfl, ha⟩ := hrel
  have HA := Lib.hid ha
  clear ha
  by_cases hlt : k < s.length
  ·have hbk := fun h => qbyte hlt h
   have hszk : k < (⟨s.toArray⟩ : ByteArray).size := by omega
   have HNO := Lib.hid (show Dd.nameC s[k] = false → R = false by
    intro h
    rw [HALL.out, ← Bool.not_eq_true, List.all_eq_true]
    intro h2
    have := h2 _ (List.getElem_mem hlt)
    rw [h] at this
    cases this)
   have hnc : Dd.nameC s[k] = (decide (97 ≤ (s[k]).toNat ∧ (s[k]).toNat ≤ 122) || decide (48 ≤ (s[k]).toNat ∧ (s[k]).toNat ≤ 57) || decide ((s[k]).toNat = 45)) := rfl
   have hbr := (s[k]).toNat_lt
   obtain ⟨x, hx⟩ : ∃ x, s[k] = x := ⟨_, rfl⟩
   rw [hx] at hnc hbr HNO
   simp only [hx] at hbk
   have HX := Lib.hid hx
   obtain ⟨n, hn⟩ : ∃ n, x.toNat = n := ⟨_, rfl⟩
   rw [hn] at hnc hbr
   have HNC := Lib.hid hnc
   clear hnc hx
   by_cases q1 : n < 97
   ·by_cases q2 : n < 48
    ·by_cases q : n = 45
     ·have d1 : decide ((n : Int) < 97) = true := decide_eq_true (by omega)
      have d3 : decide ((n : Int) < 48) = true := decide_eq_true (by omega)
      have d5 : ((n : Int) != 45) = false := by rw [q]; rfl
      have HV := Lib.hid (show Dd.nameC x = true by rw [HNC.out]; simp only [Bool.or_eq_true, decide_eq_true_eq]; omega)
      go_wp2_with fail
      go_roundw
      case rel =>
       refine ⟨k + 1, by omega, by go_num, trivial, fun j h hj => ?_⟩
       by_cases e : j = k
       ·subst e
        rw [HX.out]
        exact HV.out
       ·exact HA.out j h (by omega)
      case measure => simp [intOf]; omega
     ·have d1 : decide ((n : Int) < 97) = true := decide_eq_true (by omega)
      have d3 : decide ((n : Int) < 48) = true := decide_eq_true (by omega)
      have d5 : ((n : Int) != 45) = true := by simp only [bne_iff_ne]; omega
      have HV := Lib.hid (HNO.out (by rw [HNC.out, Bool.eq_false_iff]; simp only [ne_eq, Bool.or_eq_true, decide_eq_true_eq]; omega))
      go_wp2_with fail
      go_ret
      exact ⟨ret_bool HV.out.symm, Below.refl _ _⟩
    ·by_cases q3 : 57 < n
     ·have d1 : decide ((n : Int) < 97) = true := decide_eq_true (by omega)
      have d3 : decide ((n : Int) < 48) = false := decide_eq_false (by omega)
      have d4 : decide ((n : Int) > 57) = true := decide_eq_true (by omega)
      have d5 : ((n : Int) != 45) = true := by simp only [bne_iff_ne]; omega
      have HV := Lib.hid (HNO.out (by rw [HNC.out, Bool.eq_false_iff]; simp only [ne_eq, Bool.or_eq_true, decide_eq_true_eq]; omega))
      go_wp2_with fail
      go_ret
      exact ⟨ret_bool HV.out.symm, Below.refl _ _⟩
     ·have d1 : decide ((n : Int) < 97) = true := decide_eq_true (by omega)
      have d3 : decide ((n : Int) < 48) = false := decide_eq_false (by omega)
      have d4 : decide ((n : Int) > 57) = false := decide_eq_false (by omega)
      have HV := Lib.hid (show Dd.nameC x = true by rw [HNC.out]; simp only [Bool.or_eq_true, decide_eq_true_eq]; omega)
      go_wp2_with fail
      go_roundw
      case rel =>
       refine ⟨k + 1, by omega, by go_num, trivial, fun j h hj => ?_⟩
       by_cases e : j = k
       ·subst e
        rw [HX.out]
        exact HV.out
       ·exact HA.out j h (by omega)
      case measure => simp [intOf]; omega
   ·by_cases q4 : 122 < n
    ·have d1 : decide ((n : Int) < 97) = false := decide_eq_false (by omega)
     have d2 : decide ((n : Int) > 122) = true := decide_eq_true (by omega)
     have d3 : decide ((n : Int) < 48) = false := decide_eq_false (by omega)
     have d4 : decide ((n : Int) > 57) = true := decide_eq_true (by omega)
     have d5 : ((n : Int) != 45) = true := by simp only [bne_iff_ne]; omega
     have HV := Lib.hid (HNO.out (by rw [HNC.out, Bool.eq_false_iff]; simp only [ne_eq, Bool.or_eq_true, decide_eq_true_eq]; omega))
     go_wp2_with fail
     go_ret
     exact ⟨ret_bool HV.out.symm, Below.refl _ _⟩
    ·have d1 : decide ((n : Int) < 97) = false := decide_eq_false (by omega)
     have d2 : decide ((n : Int) > 122) = false := decide_eq_false (by omega)
     have HV := Lib.hid (show Dd.nameC x = true by rw [HNC.out]; simp only [Bool.or_eq_true, decide_eq_true_eq]; omega)
     go_wp2_with fail
     go_roundw
     case rel =>
      refine ⟨k + 1, by omega, by go_num, trivial, fun j h hj => ?_⟩
      by_cases e : j = k
      ·subst e
       rw [HX.out]
       exact HV.out
      ·exact HA.out j h (by omega)
     case measure => simp [intOf]; omega
  ·have HRT := Lib.hid (show R = true by
    rw [HALL.out, List.all_eq_true]
    intro x hx
    obtain ⟨j, hj, rfl⟩ := List.getElem_of_mem hx
    exact HA.out j hj (by omega))
   obtain rfl : k = s.length := by omega
   go_wp2_with fail
   go_ret
   exact ⟨ret_bool HRT.out.symm, Below.refl _ _⟩
end Go.Proofs.YtccikcpcfdjobaaGreatDoor
