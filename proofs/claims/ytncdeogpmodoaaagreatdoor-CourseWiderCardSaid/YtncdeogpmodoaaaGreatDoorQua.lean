/-
  Bearings as words, plainly: what Quadrant writes Bearing reads.
-/
import Derived.Test.YtncdeogpmodoaaaGreatDoorWrd
set_option linter.unusedVariables false
set_option linter.unusedSimpArgs false
namespace Go.Proofs.YtncdeogpmodoaaaGreatDoor
namespace Cs
def wNorth : Bs := [110, 111, 114, 116, 104]
def wEast : Bs := [101, 97, 115, 116]
def wSouth : Bs := [115, 111, 117, 116, 104]
def wWest : Bs := [119, 101, 115, 116]
def quarters : List Bs := [wNorth, wEast, wSouth, wWest]
/-- The words of a direction from 0 to 359. -/
def quadW (n : Int) : List Bs :=
  if n % 90 = 0 then [quarters[(n / 90).toNat]?.getD []]
  else if n < 90 then [wNorth, Lib.itoa n, wEast]
  else if n < 180 then [wSouth, Lib.itoa (180 - n), wEast]
  else if n < 270 then [wSouth, Lib.itoa (n - 180), wWest]
  else [wNorth, Lib.itoa (360 - n), wWest]
def quadF (d : Int) : Bs := Lib.join (quadW (norm d)) [32]
/-- Where a word stands among the quarters, or -1. -/
def idxQ (w : Bs) : Int := if w = wNorth then 0 else if w = wEast then 1 else if w = wSouth then 2 else if w = wWest then 3 else -1
def dir3 (w0 w2 : Bs) (n : Int) : Option Int :=
  if w0 ++ [32] ++ w2 = wNorth ++ [32] ++ wEast then some n
  else if w0 ++ [32] ++ w2 = wSouth ++ [32] ++ wEast then some (wr (180 - n))
  else if w0 ++ [32] ++ w2 = wSouth ++ [32] ++ wWest then some (wr (180 + n))
  else if w0 ++ [32] ++ w2 = wNorth ++ [32] ++ wWest then some (wr (360 - n)) else none
def dirF : List Bs → Option Int
  | [] => none
  | [w0] => if 0 ≤ idxQ w0 then some (90 * idxQ w0) else none
  | [w0, w1, w2] => match numF w1 with
    | some n => dir3 w0 w2 n
    | none => none
  | _ => none
theorem wN : Wd wNorth := by simp [Wd, wNorth]
theorem wE : Wd wEast := by simp [Wd, wEast]
theorem wS : Wd wSouth := by simp [Wd, wSouth]
theorem wW : Wd wWest := by simp [Wd, wWest]
theorem dir_write {d : Int} (h0 : 0 ≤ d) (h1 : d < 360) : dirF (Lib.splitN (quadF d) [32] 8) = some d := by
  have hn : norm d = d := by unfold norm; omega
  unfold quadF
  rw [hn]
  unfold quadW
  have three : ∀ a b (q : Int), Wd a → Wd b → 0 ≤ q → Lib.splitN (Lib.join [a, Lib.itoa q, b] [32]) [32] 8 = [a, Lib.itoa q, b] := fun a b q ha hb hq => by
    refine splitN_join _ _ (fun x hx => ?_) (by simp)
    simp only [List.mem_cons, List.not_mem_nil, or_false] at hx
    rcases hx with rfl | rfl | rfl
    · exact ha
    · exact itoa_wd hq
    · exact hb
  have one : ∀ a, Wd a → Lib.splitN (Lib.join [a] [32]) [32] 8 = [a] := fun a ha => by
    refine splitN_join _ _ (fun x hx => ?_) (by simp)
    simp only [List.mem_cons, List.not_mem_nil, or_false] at hx
    rw [hx]
    exact ha
  split
  · have h4 : d = 0 ∨ d = 90 ∨ d = 180 ∨ d = 270 := by omega
    rcases h4 with rfl | rfl | rfl | rfl
    · rw [show quarters[((0 : Int) / 90).toNat]?.getD [] = wNorth from rfl, one _ wN]; decide
    · rw [show quarters[((90 : Int) / 90).toNat]?.getD [] = wEast from rfl, one _ wE]; decide
    · rw [show quarters[((180 : Int) / 90).toNat]?.getD [] = wSouth from rfl, one _ wS]; decide
    · rw [show quarters[((270 : Int) / 90).toNat]?.getD [] = wWest from rfl, one _ wW]; decide
  · split
    · rw [three _ _ _ wN wE h0, dirF, numF_itoa h0 (by omega)]
      simp [dir3]
    · split
      · rw [three _ _ _ wS wE (by omega), dirF, numF_itoa (by omega) (by omega)]
        have : (wSouth ++ [32] ++ wEast = wNorth ++ [32] ++ wEast) = False := by simp [wSouth, wNorth]
        simp only [dir3, this, if_false, if_true]
        rw [wr_in (by omega) (by omega)]
        congr 1
        omega
      · split
        · rw [three _ _ _ wS wW (by omega), dirF, numF_itoa (by omega) (by omega)]
          have e1 : (wSouth ++ [32] ++ wWest = wNorth ++ [32] ++ wEast) = False := by simp [wSouth, wNorth]
          have e2 : (wSouth ++ [32] ++ wWest = wSouth ++ [32] ++ wEast) = False := by simp [wWest, wEast]
          simp only [dir3, e1, e2, if_false, if_true]
          rw [wr_in (by omega) (by omega)]
          congr 1
          omega
        · rw [three _ _ _ wN wW (by omega), dirF, numF_itoa (by omega) (by omega)]
          have e1 : (wNorth ++ [32] ++ wWest = wNorth ++ [32] ++ wEast) = False := by simp [wWest, wEast]
          have e2 : (wNorth ++ [32] ++ wWest = wSouth ++ [32] ++ wEast) = False := by simp [wSouth, wNorth]
          have e3 : (wNorth ++ [32] ++ wWest = wSouth ++ [32] ++ wWest) = False := by simp [wSouth, wNorth]
          simp only [dir3, e1, e2, e3, if_false, if_true]
          rw [wr_in (by omega) (by omega)]
          congr 1
          omega
theorem quadF_norm (d : Int) : quadF (norm d) = quadF d := by
  have : norm (norm d) = norm d := by unfold norm; omega
  unfold quadF
  rw [this]
def berF (s : Bs) : Int × Int := readF dirF quadF s
theorem berF_spec (s : Bs) : (∃ d, 0 ≤ d ∧ d < 360 ∧ quadF d = s ∧ berF s = (d, 0)) ∨ ((∀ d, quadF d ≠ s) ∧ berF s = (0, 4)) := by
  by_cases h : ∃ d, 0 ≤ d ∧ d < 360 ∧ quadF d = s
  · obtain ⟨d, h0, h1, h2⟩ := h
    refine .inl ⟨d, h0, h1, h2, ?_⟩
    have := dir_write h0 h1
    rw [h2] at this
    rw [berF, readF, this]
    simp [h2]
  · have hno : ∀ d, quadF d ≠ s := fun d e => h ⟨norm d, (norm_range d).1, by have := (norm_range d).2; omega, by rw [quadF_norm]; exact e⟩
    refine .inr ⟨hno, ?_⟩
    unfold berF readF
    split
    · rfl
    · rw [if_neg (hno _)]
theorem quadF_inj {a b : Int} (ha : 0 ≤ a) (ha' : a < 360) (hb : 0 ≤ b) (hb' : b < 360) (h : quadF a = quadF b) : a = b := by
  have h1 := dir_write ha ha'
  have h2 := dir_write hb hb'
  rw [h, h2] at h1
  exact (Option.some.inj h1).symm
/-- The reference tries the directions from k on. -/
def rbearF (s : Bs) : Nat → Int → Int × Int
  | 0, _ => (0, 4)
  | m + 1, k => if quadF k = s then (k, 0) else rbearF s m (k + 1)
theorem rbearF_at (s : Bs) (m : Nat) (k d : Int) (hk : 0 ≤ k) (hd : k ≤ d) (hdm : d < k + m) (h3 : k + m ≤ 360) (h : quadF d = s) : rbearF s m k = (d, 0) := by
  induction m generalizing k with
  | zero => omega
  | succ m ih =>
    rw [rbearF]
    split
    · rename_i hq
      have := quadF_inj hk (by omega) (by omega) (by omega) (hq.trans h.symm)
      rw [this]
    · rename_i hq
      have : k ≠ d := fun e => hq (by rw [e]; exact h)
      exact ih (k + 1) (by omega) (by omega) (by omega) (by omega)
theorem rbearF_no (s : Bs) (m : Nat) (k : Int) (h : ∀ d, quadF d ≠ s) : rbearF s m k = (0, 4) := by
  induction m generalizing k with
  | zero => rfl
  | succ m ih => rw [rbearF, if_neg (h k), ih]
theorem rber_eq (s : Bs) : rbearF s 360 0 = berF s := by
  rcases berF_spec s with ⟨d, h0, h1, h2, h3⟩ | ⟨h1, h2⟩
  · rw [h3]; exact rbearF_at s 360 0 d (by omega) h0 (by omega) (by omega) h2
  · rw [h2]; exact rbearF_no s 360 0 h1
end Cs
end Go.Proofs.YtncdeogpmodoaaaGreatDoor
