/-
  LineJoins: the law's walk.
-/
import Derived.Test.YtnmiecnpiadcnaaAlive
import Derived.Test.YtnmiecnpiadcnaaJoin
import Derived.Test.YtnmiecnpiadcnaaSame
set_option linter.unusedVariables false
set_option linter.unusedSimpArgs false
namespace Go.Proofs.Ytnmiecnpiadcnaa
open Go.RowKit Go.Shelf

namespace Ln
theorem joinF_len (N : Int) (bs : List Bd) (M : Int) (cs : List Bd) : (joinF N bs M cs).1.2.length ≤ 2000 := by
  unfold joinF
  split
  · split
    · split
      · split
        · rw [List.length_append]; assumption
        · simp
      · simp
    · simp
  · simp
end Ln

set_option maxRecDepth 100000 in
set_option maxHeartbeats 4000000 in
theorem lineJoins_any (N : Int) (A : Option Addr) (c : Nat) (bs : List Ln.Bd) (M : Int) (A2 : Option Addr) (c2 : Nat) (cs : List Ln.Bd) (w : World)
    (hR : Rd w w.heap.size 4 A bs.length (bcells bs)) (hY : Rd w w.heap.size 4 A2 cs.length (bcells cs)) :
    Calls Try.prog 14 #[.agg #[.int .i64 N, .slice A bs.length c], .agg #[.int .i64 M, .slice A2 cs.length c2]] w fun e w' => e = .returned (.bool true) ∧ Below w.heap.size w w' := by
  have hB0 : Below w.heap.size w ((w.alloc (.cells #[.int .i64 N, .slice A bs.length c] 24)).alloc (.cells #[.int .i64 M, .slice A2 cs.length c2] 24)) := ((Below.refl _ _).alloc (Nat.le_refl _) _).alloc (by simp) _
  have k1 := (Bk.new w 24 #[.int .i64 N, .slice A bs.length c]).alloc (.cells #[.int .i64 M, .slice A2 cs.length c2] 24)
  have k2 := Bk.new (w.alloc (.cells #[.int .i64 N, .slice A bs.length c] 24)) 24 #[.int .i64 M, .slice A2 cs.length c2]
  simp only [World.size_alloc] at k2
  have hR1 := (hR.below hB0 (Nat.le_refl _)).more hB0.size
  have hY1 := (hY.below hB0 (Nat.le_refl _)).more hB0.size
  rcases Nat.lt_or_ge 2005 bs.length with h1 | h1
  · go_enter Try.func14, Try.ntmps14
    go_wp2_with fail
    refine (alive_any _).mono ?_
    rintro e w1 ⟨rfl, hb1⟩
    go_wp2_with fail
    go_ret
    exact ⟨rfl, hB0.trans (hb1.mono hB0.size)⟩
  · rcases Nat.lt_or_ge 2005 cs.length with h2 | h2
    · go_enter Try.func14, Try.ntmps14
      go_wp2_with fail
      refine (alive_any _).mono ?_
      rintro e w1 ⟨rfl, hb1⟩
      go_wp2_with fail
      go_ret
      exact ⟨rfl, hB0.trans (hb1.mono hB0.size)⟩
    · have hJl := Ln.joinF_len N bs M cs
      have HKL := Lib.hid fun w hR hY => join_any N A c bs M A2 c2 cs w hR (by omega) hY (by omega)
      have HKR := Lib.hid fun w hR hY => rjoin_any N A c bs M A2 c2 cs w hR (by omega) hY (by omega)
      obtain ⟨J, hJ⟩ : ∃ J, Ln.joinF N bs M cs = J := ⟨_, rfl⟩
      rw [hJ] at HKL HKR hJl
      obtain ⟨⟨JN, Jb⟩, Je⟩ := J
      clear hJ
      dsimp only at HKL HKR hJl
      go_enter Try.func14, Try.ntmps14
      go_wp2_with fail
      refine (HKL.out _ hR1 hY1).mono ?_
      rintro e w1 ⟨Aj, cj, rfl, hrj, hb1⟩
      have hB1 := hB0.trans (hb1.mono hB0.size)
      have q1 := k1.below hb1 (by simp; omega)
      have q2 := k2.below hb1 (by simp)
      have c0 := q1.cell 0
      have c1 := q1.cell 1
      have d0 := q2.cell 0
      have d1 := q2.cell 1
      have dl := q1.lt
      have dm := q2.lt
      simp only [List.getElem?_toArray, List.getElem?_cons_zero, List.getElem?_cons_succ] at c0 c1 d0 d1
      go_wp2_with fail
      have hX1 : Below w1.heap.size w1 (w1.alloc (.cells #[.int .i64 JN, .slice Aj Jb.length cj] 24)) := (Below.refl _ _).alloc (Nat.le_refl _) _
      have kJ := Bk.new w1 24 #[.int .i64 JN, .slice Aj Jb.length cj]
      have hb1' := hb1.trans (hX1.mono hb1.size)
      have hrj1 := (hrj.below hX1 (Nat.le_refl _)).more hX1.size
      have hR2 := (hR1.below hb1' (Nat.le_refl _)).more hb1'.size
      have hY2 := (hY1.below hb1' (Nat.le_refl _)).more hb1'.size
      have hB2 := hB1.trans (hX1.mono hB1.size)
      obtain ⟨jb, hjb⟩ : ∃ jb, w1.heap.size = jb := ⟨_, rfl⟩
      obtain ⟨W1, hW1⟩ : ∃ W1, w1.alloc (.cells #[.int .i64 JN, .slice Aj Jb.length cj] 24) = W1 := ⟨_, rfl⟩
      rw [hW1] at kJ hrj1 hR2 hY2 hB2 ⊢
      rw [hjb] at kJ ⊢
      clear hX1 hW1 hjb hb1' hrj c0 c1 d0 d1 dl dm q1 q2 k1 k2 hR1 hY1 hR hY hb1 hB1
      refine (HKR.out _ hR2 hY2).mono ?_
      rintro e w2 ⟨Ar, cr, rfl, hrr, hb2⟩
      have hB3 := hB2.trans (hb2.mono hB2.size)
      have kJ2 := kJ.below hb2 kJ.lt
      have hrj2 := (hrj1.below hb2 (Nat.le_refl _)).more hb2.size
      clear hR2 hY2
      have hX2 : Below w2.heap.size w2 (w2.alloc (.cells #[.int .i64 JN, .slice Ar Jb.length cr] 24)) := (Below.refl _ _).alloc (Nat.le_refl _) _
      have kR := Bk.new w2 24 #[.int .i64 JN, .slice Ar Jb.length cr]
      have kJ3 := kJ2.alloc (.cells #[.int .i64 JN, .slice Ar Jb.length cr] 24)
      have hrr1 := (hrr.below hX2 (Nat.le_refl _)).more hX2.size
      have hrj3 := (hrj2.below hX2 (Nat.le_refl _)).more hX2.size
      have hB4 := hB3.trans (hX2.mono hB3.size)
      go_upto_region 5 with fail
      obtain ⟨rb, hrb⟩ : ∃ rb, w2.heap.size = rb := ⟨_, rfl⟩
      obtain ⟨W2, hW2⟩ : ∃ W2, w2.alloc (.cells #[.int .i64 JN, .slice Ar Jb.length cr] 24) = W2 := ⟨_, rfl⟩
      rw [hW2] at kR kJ3 hrr1 hrj3 hB4 ⊢
      rw [hrb] at kR ⊢
      clear hX2 hW2 hrb hrr hrj2 hrj1 kJ kJ2 hb2 hB3 hB2
      go_wp2_with fail
      refine (alive_any _).mono ?_
      rintro e w3 ⟨rfl, hb3⟩
      have hB5 := hB4.trans (hb3.mono hB4.size)
      have kJ5 := kJ3.below hb3 kJ3.lt
      have kR5 := kR.below hb3 kR.lt
      have hrr5 := (hrr1.below hb3 (Nat.le_refl _)).more hb3.size
      have hrj5 := (hrj3.below hb3 (Nat.le_refl _)).more hb3.size
      have c0 := kJ5.cell 0
      have c1 := kJ5.cell 1
      have d0 := kR5.cell 0
      have d1 := kR5.cell 1
      simp only [List.getElem?_toArray, List.getElem?_cons_zero, List.getElem?_cons_succ] at c0 c1 d0 d1
      go_wp2_with fail
      refine (same_any JN Aj cj Ar cr Jb _ hrj5 hrr5 (by omega)).mono ?_
      rintro e w4 ⟨rfl, hb4⟩
      go_wp2_with fail
      go_ret
      exact ⟨rfl, hB5.trans (hb4.mono hB5.size)⟩

end Go.Proofs.Ytnmiecnpiadcnaa
