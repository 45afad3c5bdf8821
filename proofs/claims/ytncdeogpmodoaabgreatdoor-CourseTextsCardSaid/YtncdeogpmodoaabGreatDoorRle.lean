/-
  The reference's Length and Acres.
-/
import Derived.Test.YtncdeogpmodoaabGreatDoorRme
set_option linter.unusedVariables false
set_option linter.unusedSimpArgs false
namespace Go.Proofs.YtncdeogpmodoaabGreatDoor
open Go.RowKit
set_option maxRecDepth 100000

namespace Cs
theorem write_out {us : List Un} {most n : Int} (hus : ∀ x ∈ us, Wd x.one ∧ Wd x.many ∧ 0 < x.size) (h0 : 0 ≤ n) (h1 : n ≤ most) (hsum : sumF us 0 (wordsF us n) = some n) : (if outF us n = [] then zeroL else outF us n) = writeF us most n := by
  have e : writeF us most n = if n = 0 then zeroL else Lib.join (wordsF us n) [32] := by unfold writeF; exact if_pos ⟨h0, h1⟩
  rw [e]
  by_cases hn : n = 0
  · subst hn
    rw [outF_zero, if_pos rfl, if_pos rfl]
  · have := words_pos hsum hn
    have hj := join_nil_iff (words_wd hus h0)
    rw [if_neg hn]
    exact if_neg (fun e => this (hj.1 e))
theorem lenU_short : ∀ x ∈ lenU, x.one.length ≤ 100 ∧ x.many.length ≤ 100 := by
  intro u hu
  simp only [lenU, List.mem_cons, List.not_mem_nil, or_false] at hu
  rcases hu with rfl | rfl | rfl <;> decide
theorem areU_short : ∀ x ∈ areU, x.one.length ≤ 100 ∧ x.many.length ≤ 100 := by
  intro u hu
  simp only [areU, List.mem_cons, List.not_mem_nil, or_false] at hu
  rcases hu with rfl | rfl | rfl | rfl <;> decide
end Cs

set_option maxHeartbeats 2000000 in
theorem rLength_any (n : Int) (w : World) :
    Calls Tryz.prog 21 #[.int .i64 n] w fun e w' => e = .returned (sv (Cs.lenF n)) ∧ Below w.heap.size w w' := by
  by_cases h : 0 ≤ n ∧ n ≤ 1000000
  · have d0 : decide (n < 0) = false := decide_eq_false (by omega)
    have d1 : decide (1000000 < n) = false := decide_eq_false (by omega)
    have hw : (if Cs.outF Cs.lenU n = [] then Cs.zeroL else Cs.outF Cs.lenU n) = Cs.lenF n := Cs.write_out Cs.lenU_ok h.1 h.2 (Cs.sum_len h.1 h.2)
    have ks := ((Bk.new w 3 #[.int .i64 100, .int .i64 25, .int .i64 1]).alloc (.cells #[.string ⟨#[99, 104, 97, 105, 110, 115]⟩, .string ⟨#[112, 111, 108, 101, 115]⟩, .string ⟨#[108, 105, 110, 107, 115]⟩] 9)).alloc (.cells #[.string ⟨#[99, 104, 97, 105, 110]⟩, .string ⟨#[112, 111, 108, 101]⟩, .string ⟨#[108, 105, 110, 107]⟩] 9)
    have km := (Bk.new (w.alloc (.cells #[.int .i64 100, .int .i64 25, .int .i64 1] 3)) 9 #[.string ⟨#[99, 104, 97, 105, 110, 115]⟩, .string ⟨#[112, 111, 108, 101, 115]⟩, .string ⟨#[108, 105, 110, 107, 115]⟩]).alloc (.cells #[.string ⟨#[99, 104, 97, 105, 110]⟩, .string ⟨#[112, 111, 108, 101]⟩, .string ⟨#[108, 105, 110, 107]⟩] 9)
    have ko := Bk.new ((w.alloc (.cells #[.int .i64 100, .int .i64 25, .int .i64 1] 3)).alloc (.cells #[.string ⟨#[99, 104, 97, 105, 110, 115]⟩, .string ⟨#[112, 111, 108, 101, 115]⟩, .string ⟨#[108, 105, 110, 107, 115]⟩] 9)) 9 #[.string ⟨#[99, 104, 97, 105, 110]⟩, .string ⟨#[112, 111, 108, 101]⟩, .string ⟨#[108, 105, 110, 107]⟩]
    have hB := (((Below.refl w.heap.size w).alloc (Nat.le_refl _) (.cells #[.int .i64 100, .int .i64 25, .int .i64 1] 3)).alloc (by simp) (.cells #[.string ⟨#[99, 104, 97, 105, 110, 115]⟩, .string ⟨#[112, 111, 108, 101, 115]⟩, .string ⟨#[108, 105, 110, 107, 115]⟩] 9)).alloc (by simp; omega) (.cells #[.string ⟨#[99, 104, 97, 105, 110]⟩, .string ⟨#[112, 111, 108, 101]⟩, .string ⟨#[108, 105, 110, 107]⟩] 9)
    simp only [World.size_alloc] at km ko
    have b := measure_any Cs.lenU Cs.lenU_ok Cs.lenU_short (by decide) _ _ _ n h.1 (by omega) _ ks km ko
    rw [hw] at b
    have B := Lib.hid b
    have HB := Lib.hid hB
    clear ks km ko b hB h hw
    go_enter Tryz.func21, Tryz.ntmps21
    go_wp2_with fail
    refine B.out.mono ?_
    rintro e w1 ⟨rfl, hb⟩
    have HB1 := Lib.hid (HB.out.trans (hb.mono HB.out.size))
    clear hb
    go_wp2_with fail
    go_ret
    exact ⟨rfl, HB1.out⟩
  · have hw : Cs.lenF n = [] := by rw [Cs.lenF, Cs.writeF, if_neg h]
    rw [hw]
    rcases d0 : decide (n < 0) with _ | _
    · have d1 : decide (1000000 < n) = true := decide_eq_true (by have := of_decide_eq_false d0; omega)
      clear h hw
      go_enter Tryz.func21, Tryz.ntmps21
      go_wp2_with fail
      go_ret
      exact ⟨rfl, Below.refl _ _⟩
    · clear h hw
      go_enter Tryz.func21, Tryz.ntmps21
      go_wp2_with fail
      go_ret
      exact ⟨rfl, Below.refl _ _⟩

set_option maxHeartbeats 2000000 in
theorem rAcres_any (n : Int) (w : World) :
    Calls Tryz.prog 23 #[.int .i64 n] w fun e w' => e = .returned (sv (Cs.acrF n)) ∧ Below w.heap.size w w' := by
  by_cases h : 0 ≤ n ∧ n ≤ 1000000000000
  · have d0 : decide (n < 0) = false := decide_eq_false (by omega)
    have d1 : decide (1000000000000 < n) = false := decide_eq_false (by omega)
    have hw : (if Cs.outF Cs.areU n = [] then Cs.zeroL else Cs.outF Cs.areU n) = Cs.acrF n := Cs.write_out Cs.areU_ok h.1 h.2 (Cs.sum_are h.1 h.2)
    have ks := ((Bk.new w 3 #[.int .i64 100000, .int .i64 25000, .int .i64 625, .int .i64 1]).alloc (.cells #[.string ⟨#[97, 99, 114, 101, 115]⟩, .string ⟨#[114, 111, 111, 100, 115]⟩, .string ⟨#[112, 101, 114, 99, 104, 101, 115]⟩, .string ⟨#[108, 105, 110, 107, 115]⟩] 9)).alloc (.cells #[.string ⟨#[97, 99, 114, 101]⟩, .string ⟨#[114, 111, 111, 100]⟩, .string ⟨#[112, 101, 114, 99, 104]⟩, .string ⟨#[108, 105, 110, 107]⟩] 9)
    have km := (Bk.new (w.alloc (.cells #[.int .i64 100000, .int .i64 25000, .int .i64 625, .int .i64 1] 3)) 9 #[.string ⟨#[97, 99, 114, 101, 115]⟩, .string ⟨#[114, 111, 111, 100, 115]⟩, .string ⟨#[112, 101, 114, 99, 104, 101, 115]⟩, .string ⟨#[108, 105, 110, 107, 115]⟩]).alloc (.cells #[.string ⟨#[97, 99, 114, 101]⟩, .string ⟨#[114, 111, 111, 100]⟩, .string ⟨#[112, 101, 114, 99, 104]⟩, .string ⟨#[108, 105, 110, 107]⟩] 9)
    have ko := Bk.new ((w.alloc (.cells #[.int .i64 100000, .int .i64 25000, .int .i64 625, .int .i64 1] 3)).alloc (.cells #[.string ⟨#[97, 99, 114, 101, 115]⟩, .string ⟨#[114, 111, 111, 100, 115]⟩, .string ⟨#[112, 101, 114, 99, 104, 101, 115]⟩, .string ⟨#[108, 105, 110, 107, 115]⟩] 9)) 9 #[.string ⟨#[97, 99, 114, 101]⟩, .string ⟨#[114, 111, 111, 100]⟩, .string ⟨#[112, 101, 114, 99, 104]⟩, .string ⟨#[108, 105, 110, 107]⟩]
    have hB := (((Below.refl w.heap.size w).alloc (Nat.le_refl _) (.cells #[.int .i64 100000, .int .i64 25000, .int .i64 625, .int .i64 1] 3)).alloc (by simp) (.cells #[.string ⟨#[97, 99, 114, 101, 115]⟩, .string ⟨#[114, 111, 111, 100, 115]⟩, .string ⟨#[112, 101, 114, 99, 104, 101, 115]⟩, .string ⟨#[108, 105, 110, 107, 115]⟩] 9)).alloc (by simp; omega) (.cells #[.string ⟨#[97, 99, 114, 101]⟩, .string ⟨#[114, 111, 111, 100]⟩, .string ⟨#[112, 101, 114, 99, 104]⟩, .string ⟨#[108, 105, 110, 107]⟩] 9)
    simp only [World.size_alloc] at km ko
    have b := measure_any Cs.areU Cs.areU_ok Cs.areU_short (by decide) _ _ _ n h.1 (by omega) _ ks km ko
    rw [hw] at b
    have B := Lib.hid b
    have HB := Lib.hid hB
    clear ks km ko b hB h hw
    go_enter Tryz.func23, Tryz.ntmps23
    go_wp2_with fail
    refine B.out.mono ?_
    rintro e w1 ⟨rfl, hb⟩
    have HB1 := Lib.hid (HB.out.trans (hb.mono HB.out.size))
    clear hb
    go_wp2_with fail
    go_ret
    exact ⟨rfl, HB1.out⟩
  · have hw : Cs.acrF n = [] := by rw [Cs.acrF, Cs.writeF, if_neg h]
    rw [hw]
    rcases d0 : decide (n < 0) with _ | _
    · have d1 : decide (1000000000000 < n) = true := decide_eq_true (by have := of_decide_eq_false d0; omega)
      clear h hw
      go_enter Tryz.func23, Tryz.ntmps23
      go_wp2_with fail
      go_ret
      exact ⟨rfl, Below.refl _ _⟩
    · clear h hw
      go_enter Tryz.func23, Tryz.ntmps23
      go_wp2_with fail
      go_ret
      exact ⟨rfl, Below.refl _ _⟩

end Go.Proofs.YtncdeogpmodoaabGreatDoor
