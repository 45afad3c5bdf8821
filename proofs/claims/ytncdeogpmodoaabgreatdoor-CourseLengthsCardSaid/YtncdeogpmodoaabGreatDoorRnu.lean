/-
  The reference's number.
-/
import Derived.Test.YtncdeogpmodoaabGreatDoorRwd
set_option linter.unusedVariables false
set_option linter.unusedSimpArgs false
namespace Go.Proofs.YtncdeogpmodoaabGreatDoor
open Go.RowKit
set_option maxRecDepth 100000

set_option maxHeartbeats 4000000 in
theorem rnumber_any (l : Cs.Bs) (hl : l.length ≤ 1000000) (w : World) :
    Calls Tryz.prog 65 #[.string ⟨l.toArray⟩] w fun e w' => e = .returned (.tuple #[.int .i64 ((Cs.rnumF l).getD 0), .bool (Cs.rnumF l).isSome]) ∧ w = w' := by
  have hnum : Cs.rnumF l = if l.length < 1 ∨ 12 < l.length then none else Cs.rdigF 0 l := rfl
  by_cases hs : l.length < 1 ∨ 12 < l.length
  · rw [if_pos hs] at hnum
    rw [hnum]
    rcases d0 : decide ((l.length : Int) < 1) with _ | _
    · have d1 : decide (12 < (l.length : Int)) = true := decide_eq_true (by have := of_decide_eq_false d0; omega)
      clear hnum hs
      go_enter Tryz.func65, Tryz.ntmps65
      go_wp2_with fail
      go_ret2
      exact ⟨rfl, rfl⟩
    · clear hnum hs
      go_enter Tryz.func65, Tryz.ntmps65
      go_wp2_with fail
      go_ret2
      exact ⟨rfl, rfl⟩
  · rw [if_neg hs] at hnum
    rw [hnum]
    have d0 : decide ((l.length : Int) < 1) = false := decide_eq_false (by omega)
    have d1 : decide (12 < (l.length : Int)) = false := decide_eq_false (by omega)
    have hl12 : l.length ≤ 12 := by omega
    obtain ⟨R, hR⟩ : ∃ R, Cs.rdigF 0 l = R := ⟨_, rfl⟩
    rw [hR]
    have HR := Lib.hid hR
    clear hnum hs hR
    go_enter Tryz.func65, Tryz.ntmps65
    go_wp2_with fail
    go_loopw [4, 5] (fun S I wr => w = wr ∧ ∃ (k : Nat) (a : Int), k ≤ l.length ∧ I = .int .i64 k ∧ S = .int .i64 a ∧ 0 ≤ a ∧ a < 10 ^ k ∧ Cs.rdigF a (l.drop k) = R) (fun _ I _ => l.length - (intOf I).toNat)
    case atStart => exact ⟨rfl, 0, 0, Nat.zero_le _, rfl, rfl, by omega, by decide, HR.out⟩
    case round =>
      obtain ⟨hww, k, a, hk, rfl, rfl, a0, a1, hF⟩ := hrel
      have hww := hww.symm
      subst hww
      by_cases hlt : k < l.length
      · have hk5 : decide ((k : Int) < (l.length : Int)) = true := decide_eq_true (by omega)
        obtain ⟨c, hc⟩ : ∃ c, l[k] = c := ⟨_, rfl⟩
        have hx : (⟨l.toArray⟩ : ByteArray)[k]'(by show k < l.toArray.size; simpa using hlt) = c := by rw [byte_at hlt]; exact hc
        have hdk : l.drop k = c :: l.drop (k + 1) := by rw [← hc]; exact List.drop_eq_getElem_cons hlt
        rw [hdk, Cs.rdigF] at hF
        have hp : (10 : Int) ^ k ≤ 10 ^ 11 := by
          have h := Nat.pow_le_pow_right (n := 10) (by decide) (show k ≤ 11 by omega)
          have e : ((10 ^ k : Nat) : Int) = (10 : Int) ^ k := by simp
          have e2 : ((10 ^ 11 : Nat) : Int) = (10 : Int) ^ 11 := by simp
          omega
        have hp2 : (10 : Int) ^ (k + 1) = 10 ^ k * 10 := Int.pow_succ _ _
        obtain ⟨p, hpp⟩ : ∃ p, (10 : Int) ^ k = p := ⟨_, rfl⟩
        have h11 : (10 : Int) ^ 11 = 100000000000 := by decide
        rw [h11] at hp
        rw [hpp] at hp hp2 a1
        have hcr : c.toNat < 256 := c.toNat_lt
        by_cases hd : 48 ≤ c.toNat ∧ c.toNat ≤ 57
        · rw [if_pos hd] at hF
          have e0 : decide ((c.toNat : Int) < 48) = false := decide_eq_false (by omega)
          have e1 : decide (57 < (c.toNat : Int)) = false := decide_eq_false (by omega)
          have hn1 : 0 ≤ 10 * a + (c.toNat : Int) - 48 := by omega
          have hn2 : 10 * a + (c.toNat : Int) - 48 < p * 10 := by omega
          have REL := Lib.hid (show 0 ≤ 10 * a + (c.toNat : Int) - 48 ∧ 10 * a + (c.toNat : Int) - 48 < 10 ^ (k + 1) ∧ Cs.rdigF (10 * a + (c.toNat : Int) - 48) (l.drop (k + 1)) = R from ⟨hn1, by rw [hp2]; exact hn2, hF⟩)
          clear hF hdk hc hp2 hpp
          go_wp2_with fail
          go_roundw
          case rel => exact ⟨trivial, k + 1, _, by omega, by go_num, rfl, REL.out.1, REL.out.2.1, REL.out.2.2⟩
          case measure => simp [intOf]; omega
        · rw [if_neg hd] at hF
          have HF := Lib.hid hF
          rcases e0 : decide ((c.toNat : Int) < 48) with _ | _
          · have e1 : decide (57 < (c.toNat : Int)) = true := decide_eq_true (by have := of_decide_eq_false e0; omega)
            clear hF hdk hc hp2 hpp hd
            go_wp2_with fail
            go_ret2
            have h := HF.out
            subst h
            exact ⟨rfl, rfl⟩
          · clear hF hdk hc hp2 hpp hd
            go_wp2_with fail
            go_ret2
            have h := HF.out
            subst h
            exact ⟨rfl, rfl⟩
      · obtain rfl : k = l.length := by omega
        have hk5 : decide ((l.length : Int) < (l.length : Int)) = false := decide_eq_false (by omega)
        rw [List.drop_length] at hF
        have HF := Lib.hid (show some a = R from hF)
        clear hF
        go_wp2_with fail
        go_ret2
        have h := HF.out
        subst h
        exact ⟨rfl, rfl⟩

end Go.Proofs.YtncdeogpmodoaabGreatDoor
