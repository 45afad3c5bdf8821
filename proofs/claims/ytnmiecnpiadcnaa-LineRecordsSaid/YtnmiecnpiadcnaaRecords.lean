/-
  LineRecords: the law's walk.
-/
import Derived.Test.YtnmiecnpiadcnaaAlive
import Derived.Test.YtnmiecnpiadcnaaSame
import Derived.Test.YtnmiecnpiadcnaaWo
import Derived.Test.YtnmiecnpiadcnaaWoR
import Derived.Test.YtnmiecnpiadcnaaRecI
set_option linter.unusedVariables false
set_option linter.unusedSimpArgs false
namespace Go.Proofs.Ytnmiecnpiadcnaa
open Go.RowKit Go.Shelf

theorem sameI_refl (l : List Int) : sameI l l = true := by unfold sameI; simp

set_option maxRecDepth 100000 in
set_option maxHeartbeats 4000000 in
theorem lineRecords_any (N : Int) (A : Option Addr) (c : Nat) (bs : List Ln.Bd) (A2 : Option Addr) (c2 : Nat) (l : List Int) (w : World)
    (hR : Rd w w.heap.size 4 A bs.length (bcells bs)) (hL : Rd w w.heap.size 1 A2 l.length (ints l)) (hlv : bs.length ≤ 2005 → Ln.Lv bs) (hwf : ∀ x ∈ l, (Lit.int .i64 x).wf = true) :
    Calls Try.prog 12 #[.agg #[.int .i64 N, .slice A bs.length c], .slice A2 l.length c2] w fun e w' => e = .returned (.bool true) ∧ Below w.heap.size w w' := by
  have hB0 : Below w.heap.size w (w.alloc (.cells #[.int .i64 N, .slice A bs.length c] 24)) := (Below.refl _ _).alloc (Nat.le_refl _) _
  have k0 := Bk.new w 24 #[.int .i64 N, .slice A bs.length c]
  have hR1 := (hR.below hB0 (Nat.le_refl _)).more hB0.size
  have hL1 := (hL.below hB0 (Nat.le_refl _)).more hB0.size
  rcases Nat.lt_or_ge 2005 bs.length with h1 | h1
  · go_enter Try.func12, Try.ntmps12
    go_wp2_with fail
    refine (alive_any _).mono ?_
    rintro e w1 ⟨rfl, hb1⟩
    go_wp2_with fail
    go_ret
    exact ⟨rfl, hB0.trans (hb1.mono hB0.size)⟩
  · rcases Nat.lt_or_ge 100 l.length with h2 | h2
    · go_enter Try.func12, Try.ntmps12
      go_wp2_with fail
      refine (alive_any _).mono ?_
      rintro e w1 ⟨rfl, hb1⟩
      go_wp2_with fail
      go_ret
      exact ⟨rfl, hB0.trans (hb1.mono hB0.size)⟩
    · have hlv := hlv h1
      have HKL := Lib.hid fun w hR hL => records_any N A c bs A2 c2 l w hR hlv hL (by omega)
      have HKR := Lib.hid fun w hR hL => rrecords_any N A c bs A2 c2 l w hR (by omega) hL (by omega)
      have HWL := Lib.hid fun w hR hL => without_any N A c bs A2 c2 l w hR hlv hL (by omega) hwf
      have HWR := Lib.hid fun w hR hL => rwithout_any N A c bs A2 c2 l w hR (by omega) hL (by omega)
      have hql : (Ln.recF N bs l).1.length ≤ 1000000 := by
        rw [← Ln.recF_eq]
        have := Ln.recI_length bs l
        unfold Ln.rrecF
        split
        · split
          · exact Nat.le_trans this (by omega)
          · simp
        · simp
      have hwl : (Ln.woF N bs l).1.2.length ≤ 1000000 := by
        have := Ln.woL_length l bs
        unfold Ln.woF
        split
        · exact Nat.le_trans this (by omega)
        · simp
      rw [Ln.recF_eq] at HKR
      obtain ⟨q, hq⟩ : ∃ q, Ln.recF N bs l = q := ⟨_, rfl⟩
      rw [hq] at HKL HKR hql
      obtain ⟨ql, qe⟩ := q
      obtain ⟨J, hJ⟩ : ∃ J, Ln.woF N bs l = J := ⟨_, rfl⟩
      rw [hJ] at HWL HWR hwl
      obtain ⟨⟨JN, Jb⟩, Je⟩ := J
      clear hJ hq hlv hwf
      dsimp only at HKL HKR HWL HWR hql hwl
      go_enter Try.func12, Try.ntmps12
      go_wp2_with fail
      refine (HKL.out _ hR1 hL1).mono ?_
      rintro e w1 ⟨Aq, cq, rfl, _, hfq, hb1⟩
      have hB1 := hB0.trans (hb1.mono hB0.size)
      have q1 := k0.below hb1 (by simp)
      have hR2 := (hR1.below hb1 (Nat.le_refl _)).more hb1.size
      have hL2 := (hL1.below hb1 (Nat.le_refl _)).more hb1.size
      have hrq1 := hfq.rd
      have c0 := q1.cell 0
      have c1 := q1.cell 1
      have dl := q1.lt
      simp only [List.getElem?_toArray, List.getElem?_cons_zero, List.getElem?_cons_succ] at c0 c1
      go_wp2_with fail
      clear c0 c1 dl hR1 hL1 hfq
      refine (HKR.out _ hR2 hL2).mono ?_
      rintro e w2 ⟨vr, rfl, ⟨Ar, cr, rfl, _, _, hrr, _⟩, hb2⟩
      have hB2 := hB1.trans (hb2.mono hB1.size)
      have q2 := q1.below hb2 q1.lt
      have hR3 := (hR2.below hb2 (Nat.le_refl _)).more hb2.size
      have hL3 := (hL2.below hb2 (Nat.le_refl _)).more hb2.size
      have hrq2 := (hrq1.below hb2 (Nat.le_refl _)).more hb2.size
      have c0 := q2.cell 0
      have c1 := q2.cell 1
      have dl := q2.lt
      simp only [List.getElem?_toArray, List.getElem?_cons_zero, List.getElem?_cons_succ] at c0 c1
      go_wp2_with fail
      clear c0 c1 dl hR2 hL2 hrq1
      refine (HWL.out _ hR3 hL3).mono ?_
      rintro e w3 ⟨Aj, cj, rfl, hrj, _, hb3⟩
      have hX3 : Below w3.heap.size w3 (w3.alloc (.cells #[.int .i64 JN, .slice Aj Jb.length cj] 24)) := (Below.refl _ _).alloc (Nat.le_refl _) _
      have hb3' := hb3.trans (hX3.mono hb3.size)
      have kJ := Bk.new w3 24 #[.int .i64 JN, .slice Aj Jb.length cj]
      have hB3 := hB2.trans (hb3'.mono hB2.size)
      have q3' := q2.below hb3 q2.lt
      have q3 := q2.below hb3' q2.lt
      have hR4 := (hR3.below hb3' (Nat.le_refl _)).more hb3'.size
      have hL4 := (hL3.below hb3' (Nat.le_refl _)).more hb3'.size
      have hrq3 := (hrq2.below hb3' (Nat.le_refl _)).more hb3'.size
      have hrr3 := (hrr.below hb3' (Nat.le_refl _)).more hb3'.size
      have hrj3 := (hrj.below hX3 (Nat.le_refl _)).more hX3.size
      have c0 := q3'.cell 0
      have c1 := q3'.cell 1
      have dl := q3'.lt
      simp only [List.getElem?_toArray, List.getElem?_cons_zero, List.getElem?_cons_succ] at c0 c1
      go_wp2_with fail
      obtain ⟨jb, hjb⟩ : ∃ jb, w3.heap.size = jb := ⟨_, rfl⟩
      obtain ⟨W3, hW3⟩ : ∃ W3, w3.alloc (.cells #[.int .i64 JN, .slice Aj Jb.length cj] 24) = W3 := ⟨_, rfl⟩
      rw [hW3] at kJ hB3 q3 hR4 hL4 hrq3 hrr3 hrj3 ⊢
      rw [hjb] at kJ ⊢
      clear c0 c1 dl hR3 hL3 hrq2 hrr hrj hX3 hb3' hW3 hjb q3' hb3 hb2 hb1 hB0 hB1 hB2 q1 q2 k0
      refine (HWR.out _ hR4 hL4).mono ?_
      rintro e w4 ⟨Ak, ck, rfl, hrk, hb4⟩
      have hX4 : Below w4.heap.size w4 (w4.alloc (.cells #[.int .i64 JN, .slice Ak Jb.length ck] 24)) := (Below.refl _ _).alloc (Nat.le_refl _) _
      have hb4' := hb4.trans (hX4.mono hb4.size)
      have kK := Bk.new w4 24 #[.int .i64 JN, .slice Ak Jb.length ck]
      have kJ4 := kJ.below hb4' kJ.lt
      have hB4 := hB3.trans (hb4'.mono hB3.size)
      have hrq4 := (hrq3.below hb4' (Nat.le_refl _)).more hb4'.size
      have hrr4 := (hrr3.below hb4' (Nat.le_refl _)).more hb4'.size
      have hrj4 := (hrj3.below hb4' (Nat.le_refl _)).more hb4'.size
      have hrk4 := (hrk.below hX4 (Nat.le_refl _)).more hX4.size
      clear hR4 hL4
      go_upto_region 7 with fail
      obtain ⟨kb, hkb⟩ : ∃ kb, w4.heap.size = kb := ⟨_, rfl⟩
      obtain ⟨W4, hW4⟩ : ∃ W4, w4.alloc (.cells #[.int .i64 JN, .slice Ak Jb.length ck] 24) = W4 := ⟨_, rfl⟩
      rw [hW4] at kK kJ4 hB4 hrq4 hrr4 hrj4 hrk4 ⊢
      rw [hkb] at kK ⊢
      clear hrq3 hrr3 hrj3 hrk hX4 hb4' hW4 hkb hb4 hB3 kJ q3
      go_wp2_with fail
      refine (alive_any _).mono ?_
      rintro e w5 ⟨rfl, hb5⟩
      have hB5 := hB4.trans (hb5.mono hB4.size)
      have kJ5 := kJ4.below hb5 kJ4.lt
      have kK5 := kK.below hb5 kK.lt
      have hrq5 := (hrq4.below hb5 (Nat.le_refl _)).more hb5.size
      have hrr5 := (hrr4.below hb5 (Nat.le_refl _)).more hb5.size
      have hrj5 := (hrj4.below hb5 (Nat.le_refl _)).more hb5.size
      have hrk5 := (hrk4.below hb5 (Nat.le_refl _)).more hb5.size
      clear hrq4 hrr4 hrj4 hrk4 kJ4 kK hb5 hB4
      go_wp2_with fail
      have hsm := sameInts_any Aq cq ql Ar cr ql w5 hrq5 hrr5 hql hql
      rw [sameI_refl] at hsm
      refine hsm.mono ?_
      rintro e w6 ⟨rfl, hb6⟩
      have hB6 := hB5.trans (hb6.mono hB5.size)
      have kJ6 := kJ5.below hb6 kJ5.lt
      have kK6 := kK5.below hb6 kK5.lt
      have hrj6 := (hrj5.below hb6 (Nat.le_refl _)).more hb6.size
      have hrk6 := (hrk5.below hb6 (Nat.le_refl _)).more hb6.size
      have c0 := kJ6.cell 0
      have c1 := kJ6.cell 1
      have d0 := kK6.cell 0
      have d1 := kK6.cell 1
      simp only [List.getElem?_toArray, List.getElem?_cons_zero, List.getElem?_cons_succ] at c0 c1 d0 d1
      clear hsm
      go_wp2_with fail
      refine (same_any JN Aj cj Ak ck Jb _ hrj6 hrk6 hwl).mono ?_
      rintro e w7 ⟨rfl, hb7⟩
      go_wp2_with fail
      go_ret
      exact ⟨rfl, hB6.trans (hb7.mono hB6.size)⟩

end Go.Proofs.Ytnmiecnpiadcnaa
