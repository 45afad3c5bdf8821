/-
  The reference's digits and Quadrant.
-/
import Derived.Test.YtncdeogpmodoaabGreatDoorQdr
import Derived.Laws.BytesArg
set_option linter.unusedVariables false
set_option linter.unusedSimpArgs false
namespace Go.Proofs.YtncdeogpmodoaabGreatDoor
open Go.RowKit Go.Lib
set_option maxRecDepth 100000

theorem rdigit_at (n c : Int) (hc : c = 48 + n) (h0 : 0 ≤ n) (h1 : n < 10) (w : World) :
    (convert 96 9 (.slice (some ⟨w.heap.size, 0, none⟩) 1 1)).run Tryz.prog (w.alloc (.cells #[.int .u8 c] 5)) = .ok (sv (Lib.decDigits n.toNat)) (w.alloc (.cells #[.int .u8 c] 5)) := by
  have g := run_convert_bytes_arg (P := Tryz.prog) (w.alloc (.cells #[.int .u8 c] 5)) 96 5 Tryz.underlying96 Tryz.underlying5 w.heap.size 0 1 1 [c] rfl (fun i hi => by
    obtain rfl : i = 0 := by omega
    exact (Bk.new w 5 #[.int .u8 c]).cell 0) 9 Tryz.underlying9
  rw [g, Lib.decDigits, dif_pos (by omega)]
  have : strOfNums [c] = ⟨#[UInt8.ofNat (48 + n.toNat)]⟩ := by
    rw [strOfNums]
    simp only [List.map_cons, List.map_nil]
    rw [show c.toNat = 48 + n.toNat by omega]
  rw [this]
  rfl

theorem rdigit_low (n : Int) (h0 : 0 ≤ n) (h1 : n < 10) (w : World) :
    Calls Tryz.prog 52 #[.int .i64 n] w fun e w' => e = .returned (sv (Lib.decDigits n.toNat)) ∧ Below w.heap.size w w' := by
  have hb := fun c : Int => (Below.refl w.heap.size w).alloc (Nat.le_refl _) (.cells #[.int .u8 c] 5)
  have h : n = 0 ∨ n = 1 ∨ n = 2 ∨ n = 3 ∨ n = 4 ∨ n = 5 ∨ n = 6 ∨ n = 7 ∨ n = 8 ∨ n = 9 := by omega
  have HB := Lib.hid hb
  clear hb
  rcases h with rfl | rfl | rfl | rfl | rfl | rfl | rfl | rfl | rfl | rfl
  · have g := rdigit_at 0 48 rfl (by decide) (by decide) w
    go_enter Tryz.func52, Tryz.ntmps52
    go_wp2_with fail
    go_ret
    exact ⟨rfl, HB.out _⟩
  · have g := rdigit_at 1 49 rfl (by decide) (by decide) w
    go_enter Tryz.func52, Tryz.ntmps52
    go_wp2_with fail
    go_ret
    exact ⟨rfl, HB.out _⟩
  · have g := rdigit_at 2 50 rfl (by decide) (by decide) w
    go_enter Tryz.func52, Tryz.ntmps52
    go_wp2_with fail
    go_ret
    exact ⟨rfl, HB.out _⟩
  · have g := rdigit_at 3 51 rfl (by decide) (by decide) w
    go_enter Tryz.func52, Tryz.ntmps52
    go_wp2_with fail
    go_ret
    exact ⟨rfl, HB.out _⟩
  · have g := rdigit_at 4 52 rfl (by decide) (by decide) w
    go_enter Tryz.func52, Tryz.ntmps52
    go_wp2_with fail
    go_ret
    exact ⟨rfl, HB.out _⟩
  · have g := rdigit_at 5 53 rfl (by decide) (by decide) w
    go_enter Tryz.func52, Tryz.ntmps52
    go_wp2_with fail
    go_ret
    exact ⟨rfl, HB.out _⟩
  · have g := rdigit_at 6 54 rfl (by decide) (by decide) w
    go_enter Tryz.func52, Tryz.ntmps52
    go_wp2_with fail
    go_ret
    exact ⟨rfl, HB.out _⟩
  · have g := rdigit_at 7 55 rfl (by decide) (by decide) w
    go_enter Tryz.func52, Tryz.ntmps52
    go_wp2_with fail
    go_ret
    exact ⟨rfl, HB.out _⟩
  · have g := rdigit_at 8 56 rfl (by decide) (by decide) w
    go_enter Tryz.func52, Tryz.ntmps52
    go_wp2_with fail
    go_ret
    exact ⟨rfl, HB.out _⟩
  · have g := rdigit_at 9 57 rfl (by decide) (by decide) w
    go_enter Tryz.func52, Tryz.ntmps52
    go_wp2_with fail
    go_ret
    exact ⟨rfl, HB.out _⟩

theorem dig_len (n : Nat) (hn : n ≤ 9223372036854775807) : (Lib.decDigits n).length ≤ 100 := by
  have := itoa_len (q := (n : Int)) (by omega) (by omega)
  rwa [Cs.itoa_nn (by omega), Int.toNat_natCast] at this

theorem rdigits_any (n : Nat) (hn : n ≤ 9223372036854775807) (w : World) :
    Calls Tryz.prog 52 #[.int .i64 (n : Int)] w fun e w' => e = .returned (sv (Lib.decDigits n)) ∧ Below w.heap.size w w' := by
  induction n using Nat.strongRecOn generalizing w with
  | _ n ih =>
    by_cases h : n < 10
    · exact rdigit_low (n : Int) (by omega) (by omega) w
    · have b1 := ih (n / 10) (by omega) (by omega)
      have b2 := fun W => rdigit_low ((n : Int) % 10) (by omega) (by omega) W
      have hd : Lib.decDigits n = Lib.decDigits (n / 10) ++ Lib.decDigits ((n : Int) % 10).toNat := by
        rw [Lib.decDigits, dif_neg h, Lib.decDigits.eq_def ((n : Int) % 10).toNat, dif_pos (by omega)]
        congr 3
      have hlt : decide ((n : Int) < 10) = false := decide_eq_false (by omega)
      rw [hd]
      obtain ⟨x, hx⟩ : ∃ x, Lib.decDigits (n / 10) = x := ⟨_, rfl⟩
      obtain ⟨y, hy⟩ : ∃ y, Lib.decDigits ((n : Int) % 10).toNat = y := ⟨_, rfl⟩
      have l1 := dig_len (n / 10) (by omega)
      have l2 := dig_len ((n : Int) % 10).toNat (by omega)
      rw [hx] at b1 l1
      rw [hy] at b2 l2
      rw [hx, hy]
      have c1 := fun w => cat2 (P := Tryz.prog) x y (by omega) (by omega) w
      obtain ⟨z, hz⟩ : ∃ z, x ++ y = z := ⟨_, rfl⟩
      rw [hz] at c1 ⊢
      have B1 := Lib.hid b1
      have B2 := Lib.hid b2
      clear b1 b2 hx hy hd ih hz l1 l2
      go_enter Tryz.func52, Tryz.ntmps52
      go_wp2_with fail
      refine (B1.out _).mono ?_
      rintro e w1 ⟨rfl, hb⟩
      have HB := Lib.hid hb
      clear hb
      simp only [sv_def]
      go_wp2_with fail
      refine (B2.out _).mono ?_
      rintro e w2 ⟨rfl, hb⟩
      have HB2 := Lib.hid (HB.out.trans (hb.mono HB.out.size))
      clear hb
      simp only [sv_def]
      go_wp2_with fail
      go_ret
      exact ⟨rfl, HB2.out⟩

end Go.Proofs.YtncdeogpmodoaabGreatDoor
