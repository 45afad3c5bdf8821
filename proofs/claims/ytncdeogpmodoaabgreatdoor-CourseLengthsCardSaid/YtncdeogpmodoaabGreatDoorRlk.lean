/-
  The reference's Links and Area.
-/
import Derived.Test.YtncdeogpmodoaabGreatDoorRcn
set_option linter.unusedVariables false
set_option linter.unusedSimpArgs false
namespace Go.Proofs.YtncdeogpmodoaabGreatDoor
open Go.RowKit
set_option maxRecDepth 100000

namespace Cs
theorem lenU_small : ∀ x ∈ lenU, 0 < x.size ∧ x.size ≤ 100000 := by
  intro u hu
  simp only [lenU, List.mem_cons, List.not_mem_nil, or_false] at hu
  rcases hu with rfl | rfl | rfl <;> decide
theorem areU_small : ∀ x ∈ areU, 0 < x.size ∧ x.size ≤ 100000 := by
  intro u hu
  simp only [areU, List.mem_cons, List.not_mem_nil, or_false] at hu
  rcases hu with rfl | rfl | rfl | rfl <;> decide
end Cs

set_option maxHeartbeats 4000000 in
theorem rLinks_any (s : Cs.Bs) (hs : s.length ≤ 1000000) (w : World) :
    Calls Tryz.prog 17 #[sv s] w fun e w' => e = .returned (.tuple #[.int .i64 (Cs.lnkF s).1, .int .i64 (Cs.lnkF s).2]) ∧ Below w.heap.size w w' := by
  have hl : (match Cs.rcntF Cs.lenU s with | none => ((0 : Int), (4 : Int)) | some n => if Cs.lenF n = s then (n, 0) else (0, 4)) = Cs.lnkF s := Cs.rlnk_eq s
  have ks := ((Bk.new w 3 #[.int .i64 100, .int .i64 25, .int .i64 1]).alloc (.cells #[.string ⟨#[99, 104, 97, 105, 110, 115]⟩, .string ⟨#[112, 111, 108, 101, 115]⟩, .string ⟨#[108, 105, 110, 107, 115]⟩] 9)).alloc (.cells #[.string ⟨#[99, 104, 97, 105, 110]⟩, .string ⟨#[112, 111, 108, 101]⟩, .string ⟨#[108, 105, 110, 107]⟩] 9)
  have km := (Bk.new (w.alloc (.cells #[.int .i64 100, .int .i64 25, .int .i64 1] 3)) 9 #[.string ⟨#[99, 104, 97, 105, 110, 115]⟩, .string ⟨#[112, 111, 108, 101, 115]⟩, .string ⟨#[108, 105, 110, 107, 115]⟩]).alloc (.cells #[.string ⟨#[99, 104, 97, 105, 110]⟩, .string ⟨#[112, 111, 108, 101]⟩, .string ⟨#[108, 105, 110, 107]⟩] 9)
  have ko := Bk.new ((w.alloc (.cells #[.int .i64 100, .int .i64 25, .int .i64 1] 3)).alloc (.cells #[.string ⟨#[99, 104, 97, 105, 110, 115]⟩, .string ⟨#[112, 111, 108, 101, 115]⟩, .string ⟨#[108, 105, 110, 107, 115]⟩] 9)) 9 #[.string ⟨#[99, 104, 97, 105, 110]⟩, .string ⟨#[112, 111, 108, 101]⟩, .string ⟨#[108, 105, 110, 107]⟩]
  have hB := (((Below.refl w.heap.size w).alloc (Nat.le_refl _) (.cells #[.int .i64 100, .int .i64 25, .int .i64 1] 3)).alloc (by simp) (.cells #[.string ⟨#[99, 104, 97, 105, 110, 115]⟩, .string ⟨#[112, 111, 108, 101, 115]⟩, .string ⟨#[108, 105, 110, 107, 115]⟩] 9)).alloc (by simp; omega) (.cells #[.string ⟨#[99, 104, 97, 105, 110]⟩, .string ⟨#[112, 111, 108, 101]⟩, .string ⟨#[108, 105, 110, 107]⟩] 9)
  simp only [World.size_alloc] at km ko
  have b := rcounted_any Cs.lenU Cs.lenU_small _ _ _ s hs (by decide) _ ks km ko
  rw [sv_def]
  have HB := Lib.hid hB
  rcases hc : Cs.rcntF Cs.lenU s with _ | n
  · rw [hc] at b hl
    simp only [Option.getD_none, Option.isSome_none] at b
    rw [← hl]
    have B := Lib.hid b
    clear ks km ko b hB hl hc
    go_enter Tryz.func17, Tryz.ntmps17
    go_wp2_with fail
    refine B.out.mono ?_
    rintro e w1 ⟨rfl, hb⟩
    have HB1 := Lib.hid (HB.out.trans (hb.mono HB.out.size))
    clear hb
    go_wp2_with fail
    go_ret2
    exact ⟨rfl, HB1.out⟩
  · rw [hc] at b hl
    simp only [Option.getD_some, Option.isSome_some] at b
    dsimp only at hl
    have b2 := fun W => rLength_any n W
    obtain ⟨T, hT⟩ : ∃ T, Cs.lenF n = T := ⟨_, rfl⟩
    rw [hT] at b2 hl
    rw [← hl]
    simp only [sv_def] at b2
    have B := Lib.hid b
    have B2 := Lib.hid b2
    clear ks km ko b b2 hB hl hc hT
    by_cases ht : T = s
    · subst ht
      rw [if_pos rfl]
      go_enter Tryz.func17, Tryz.ntmps17
      go_wp2_with fail
      refine B.out.mono ?_
      rintro e w1 ⟨rfl, hb⟩
      have HB1 := Lib.hid (HB.out.trans (hb.mono HB.out.size))
      clear hb
      go_wp2_with fail
      refine (B2.out _).mono ?_
      rintro e w2 ⟨rfl, hb⟩
      have HB2 := Lib.hid (HB1.out.trans (hb.mono HB1.out.size))
      clear hb
      go_wp2_with fail
      go_ret2
      exact ⟨rfl, HB2.out⟩
    · have hne : (T == s) = false := by simp [ht]
      have hne2 : (T != s) = true := by simp [ht]
      rw [if_neg ht]
      clear ht
      go_enter Tryz.func17, Tryz.ntmps17
      go_wp2_with fail
      refine B.out.mono ?_
      rintro e w1 ⟨rfl, hb⟩
      have HB1 := Lib.hid (HB.out.trans (hb.mono HB.out.size))
      clear hb
      go_wp2_with fail
      refine (B2.out _).mono ?_
      rintro e w2 ⟨rfl, hb⟩
      have HB2 := Lib.hid (HB1.out.trans (hb.mono HB1.out.size))
      clear hb
      go_wp2_with fail
      go_ret2
      exact ⟨rfl, HB2.out⟩

set_option maxHeartbeats 4000000 in
theorem rArea_any (s : Cs.Bs) (hs : s.length ≤ 1000000) (w : World) :
    Calls Tryz.prog 19 #[sv s] w fun e w' => e = .returned (.tuple #[.int .i64 (Cs.areF s).1, .int .i64 (Cs.areF s).2]) ∧ Below w.heap.size w w' := by
  have hl : (match Cs.rcntF Cs.areU s with | none => ((0 : Int), (4 : Int)) | some n => if Cs.acrF n = s then (n, 0) else (0, 4)) = Cs.areF s := Cs.rare_eq s
  have ks := ((Bk.new w 3 #[.int .i64 100000, .int .i64 25000, .int .i64 625, .int .i64 1]).alloc (.cells #[.string ⟨#[97, 99, 114, 101, 115]⟩, .string ⟨#[114, 111, 111, 100, 115]⟩, .string ⟨#[112, 101, 114, 99, 104, 101, 115]⟩, .string ⟨#[108, 105, 110, 107, 115]⟩] 9)).alloc (.cells #[.string ⟨#[97, 99, 114, 101]⟩, .string ⟨#[114, 111, 111, 100]⟩, .string ⟨#[112, 101, 114, 99, 104]⟩, .string ⟨#[108, 105, 110, 107]⟩] 9)
  have km := (Bk.new (w.alloc (.cells #[.int .i64 100000, .int .i64 25000, .int .i64 625, .int .i64 1] 3)) 9 #[.string ⟨#[97, 99, 114, 101, 115]⟩, .string ⟨#[114, 111, 111, 100, 115]⟩, .string ⟨#[112, 101, 114, 99, 104, 101, 115]⟩, .string ⟨#[108, 105, 110, 107, 115]⟩]).alloc (.cells #[.string ⟨#[97, 99, 114, 101]⟩, .string ⟨#[114, 111, 111, 100]⟩, .string ⟨#[112, 101, 114, 99, 104]⟩, .string ⟨#[108, 105, 110, 107]⟩] 9)
  have ko := Bk.new ((w.alloc (.cells #[.int .i64 100000, .int .i64 25000, .int .i64 625, .int .i64 1] 3)).alloc (.cells #[.string ⟨#[97, 99, 114, 101, 115]⟩, .string ⟨#[114, 111, 111, 100, 115]⟩, .string ⟨#[112, 101, 114, 99, 104, 101, 115]⟩, .string ⟨#[108, 105, 110, 107, 115]⟩] 9)) 9 #[.string ⟨#[97, 99, 114, 101]⟩, .string ⟨#[114, 111, 111, 100]⟩, .string ⟨#[112, 101, 114, 99, 104]⟩, .string ⟨#[108, 105, 110, 107]⟩]
  have hB := (((Below.refl w.heap.size w).alloc (Nat.le_refl _) (.cells #[.int .i64 100000, .int .i64 25000, .int .i64 625, .int .i64 1] 3)).alloc (by simp) (.cells #[.string ⟨#[97, 99, 114, 101, 115]⟩, .string ⟨#[114, 111, 111, 100, 115]⟩, .string ⟨#[112, 101, 114, 99, 104, 101, 115]⟩, .string ⟨#[108, 105, 110, 107, 115]⟩] 9)).alloc (by simp; omega) (.cells #[.string ⟨#[97, 99, 114, 101]⟩, .string ⟨#[114, 111, 111, 100]⟩, .string ⟨#[112, 101, 114, 99, 104]⟩, .string ⟨#[108, 105, 110, 107]⟩] 9)
  simp only [World.size_alloc] at km ko
  have b := rcounted_any Cs.areU Cs.areU_small _ _ _ s hs (by decide) _ ks km ko
  rw [sv_def]
  have HB := Lib.hid hB
  rcases hc : Cs.rcntF Cs.areU s with _ | n
  · rw [hc] at b hl
    simp only [Option.getD_none, Option.isSome_none] at b
    rw [← hl]
    have B := Lib.hid b
    clear ks km ko b hB hl hc
    go_enter Tryz.func19, Tryz.ntmps19
    go_wp2_with fail
    refine B.out.mono ?_
    rintro e w1 ⟨rfl, hb⟩
    have HB1 := Lib.hid (HB.out.trans (hb.mono HB.out.size))
    clear hb
    go_wp2_with fail
    go_ret2
    exact ⟨rfl, HB1.out⟩
  · rw [hc] at b hl
    simp only [Option.getD_some, Option.isSome_some] at b
    dsimp only at hl
    have b2 := fun W => rAcres_any n W
    obtain ⟨T, hT⟩ : ∃ T, Cs.acrF n = T := ⟨_, rfl⟩
    rw [hT] at b2 hl
    rw [← hl]
    simp only [sv_def] at b2
    have B := Lib.hid b
    have B2 := Lib.hid b2
    clear ks km ko b b2 hB hl hc hT
    by_cases ht : T = s
    · subst ht
      rw [if_pos rfl]
      go_enter Tryz.func19, Tryz.ntmps19
      go_wp2_with fail
      refine B.out.mono ?_
      rintro e w1 ⟨rfl, hb⟩
      have HB1 := Lib.hid (HB.out.trans (hb.mono HB.out.size))
      clear hb
      go_wp2_with fail
      refine (B2.out _).mono ?_
      rintro e w2 ⟨rfl, hb⟩
      have HB2 := Lib.hid (HB1.out.trans (hb.mono HB1.out.size))
      clear hb
      go_wp2_with fail
      go_ret2
      exact ⟨rfl, HB2.out⟩
    · have hne : (T == s) = false := by simp [ht]
      have hne2 : (T != s) = true := by simp [ht]
      rw [if_neg ht]
      clear ht
      go_enter Tryz.func19, Tryz.ntmps19
      go_wp2_with fail
      refine B.out.mono ?_
      rintro e w1 ⟨rfl, hb⟩
      have HB1 := Lib.hid (HB.out.trans (hb.mono HB.out.size))
      clear hb
      go_wp2_with fail
      refine (B2.out _).mono ?_
      rintro e w2 ⟨rfl, hb⟩
      have HB2 := Lib.hid (HB1.out.trans (hb.mono HB1.out.size))
      clear hb
      go_wp2_with fail
      go_ret2
      exact ⟨rfl, HB2.out⟩

end Go.Proofs.YtncdeogpmodoaabGreatDoor
