/-
  Close, plainly: the closure has the distances of the system, and is its own closure.
-/
import Derived.Test.YtppfpdhgckghdaaPots
set_option linter.unusedVariables false
set_option linter.unusedSimpArgs false
namespace Go.Proofs.Ytppfpdhgckghdaa.Ln

def clB (D : List Int) (a b : Nat) : List Bd := if a = b ∨ gt D b = NONE then [] else [⟨a, b, gt D b, 0, false⟩]
def clR (D : List Int) (a k : Nat) : List Bd := (List.range k).flatMap (clB D a)
def clA (bs : List Bd) (N k : Nat) : List Bd := (List.range k).flatMap (fun a => clR (distF bs N a) a N)
theorem clR_succ (D : List Int) (a k : Nat) : clR D a (k + 1) = clR D a k ++ clB D a k := by simp [clR, List.range_succ]
theorem clA_succ (bs : List Bd) (N k : Nat) : clA bs N (k + 1) = clA bs N k ++ clR (distF bs N k) k N := by simp [clA, List.range_succ]
theorem clB_length (D : List Int) (a b : Nat) : (clB D a b).length ≤ 1 := by unfold clB; split <;> simp
theorem clR_length (D : List Int) (a k : Nat) : (clR D a k).length ≤ k := by
  induction k with
  | zero => simp [clR]
  | succ k ih => rw [clR_succ, List.length_append]; have := clB_length D a k; omega
theorem clA_length (bs : List Bd) (N k : Nat) : (clA bs N k).length ≤ k * N := by
  induction k with
  | zero => simp [clA]
  | succ k ih => rw [clA_succ, List.length_append, Nat.succ_mul]; have := clR_length (distF bs N k) k N; omega
/-- A distance that a bound can have. -/
def fitB (d : Int) : Bool := decide (d = NONE) || within d 1000000
def fitR (D : List Int) (k : Nat) : Bool := (List.range k).all (fun b => fitB (gt D b))
def fitA (bs : List Bd) (N k : Nat) : Bool := (List.range k).all (fun a => fitR (distF bs N a) N)
theorem fitR_succ (D : List Int) (k : Nat) : fitR D (k + 1) = (fitR D k && fitB (gt D k)) := by simp [fitR, List.range_succ, List.all_append]
theorem fitA_succ (bs : List Bd) (N k : Nat) : fitA bs N (k + 1) = (fitA bs N k && fitR (distF bs N k) N) := by simp [fitA, List.range_succ, List.all_append]
theorem fitR_no {D : List Int} {k N : Nat} (hk : k < N) (h : fitB (gt D k) = false) : fitR D N = false := by
  rw [Bool.eq_false_iff]
  intro h2
  have := List.all_eq_true.1 h2 k (List.mem_range.2 hk)
  rw [h] at this
  cases this
theorem fitA_no {bs : List Bd} {k N : Nat} (hk : k < N) (h : fitR (distF bs N k) N = false) : fitA bs N N = false := by
  rw [Bool.eq_false_iff]
  intro h2
  have := List.all_eq_true.1 h2 k (List.mem_range.2 hk)
  rw [h] at this
  cases this
/-- Close. -/
def clsF (N : Int) (bs : List Bd) : (Int × List Bd) × Int :=
  if soundF N bs [] = 0 then (if fitA bs N.toNat N.toNat then ((N, clA bs N.toNat N.toNat), 0) else ((0, []), 2)) else ((0, []), soundF N bs [])

theorem mem_clA {bs : List Bd} {N k : Nat} {x : Bd} : x ∈ clA bs N k ↔ ∃ a b : Nat, a < k ∧ b < N ∧ a ≠ b ∧ gt (distF bs N a) b ≠ NONE ∧ x = ⟨a, b, gt (distF bs N a) b, 0, false⟩ := by
  unfold clA clR clB
  simp only [List.mem_flatMap, List.mem_range]
  constructor
  · rintro ⟨a, ha, b, hb, hx⟩
    split at hx
    · cases hx
    · rename_i h
      rw [not_or] at h
      exact ⟨a, b, ha, hb, h.1, h.2, List.mem_singleton.1 hx⟩
  · rintro ⟨a, b, ha, hb, h1, h2, rfl⟩
    refine ⟨a, ha, b, hb, ?_⟩
    rw [if_neg (by rw [not_or]; exact ⟨h1, h2⟩)]
    exact List.mem_singleton.2 rfl

theorem pot_mem {cs : List Bd} (hl : ∀ b ∈ cs, b.gone = false) {y : Nat → Int} : Pot cs y ↔ ∀ x ∈ cs, y x.t.toNat ≤ y x.f.toNat + x.m := by
  constructor
  · intro h x hx
    obtain ⟨i, hi, rfl⟩ := List.mem_iff_getElem.1 hx
    have := h i ⟨hi, by rw [bd_eq hi]; exact hl _ (List.getElem_mem hi)⟩
    rwa [bd_eq hi] at this
  · intro h i hi
    exact h _ (bd_mem hi.1)

theorem flatMap_congr' {α β : Type} {l : List α} {f g : α → List β} (h : ∀ x ∈ l, f x = g x) : l.flatMap f = l.flatMap g := by
  induction l with
  | nil => rfl
  | cons x l ih => rw [List.flatMap_cons, List.flatMap_cons, h x (by simp), ih fun y hy => h y (by simp [hy])]

theorem clA_congr {bs cs : List Bd} {N : Nat} (h : ∀ a b : Nat, a < N → b < N → gt (distF cs N a) b = gt (distF bs N a) b) : clA cs N N = clA bs N N := by
  unfold clA clR
  refine flatMap_congr' fun a ha => flatMap_congr' fun b hb => ?_
  have := h a b (List.mem_range.1 ha) (List.mem_range.1 hb)
  unfold clB
  rw [this]

/-- What the closure of a system is. -/
structure ClsOk (N : Int) (bs cs : List Bd) : Prop where
  len : cs.length ≤ 2000
  check : check N cs = 0
  live : ∀ b ∈ cs, b.gone = false
  sound : soundF N cs [] = 0
  same : ∀ a b : Nat, a < N.toNat → b < N.toNat → gt (distF cs N.toNat a) b = gt (distF bs N.toNat a) b
  again : clsF N cs = ((N, cs), 0)

theorem clsF_err {N : Int} {bs : List Bd} (h : (clsF N bs).2 ≠ 0) : (clsF N bs).1 = (0, []) := by
  unfold clsF at h ⊢
  split
  · rename_i h1
    rw [if_pos h1] at h
    split
    · rename_i h2
      rw [if_pos h2] at h
      exact absurd rfl h
    · rfl
  · rfl
theorem cls_ok {N : Int} {bs : List Bd} (h14 : check N bs = 0 → N ≤ 14) (h : (clsF N bs).2 = 0) : clsF N bs = ((N, clA bs N.toNat N.toNat), 0) ∧ soundF N bs [] = 0 ∧ ClsOk N bs (clA bs N.toNat N.toNat) := by
  unfold clsF at h ⊢
  by_cases h1 : soundF N bs [] = 0
  · rw [if_pos h1] at h ⊢
    by_cases h2 : fitA bs N.toNat N.toNat = true
    · rw [if_pos h2]
      obtain ⟨_, hc, hk⟩ := sound_zero h1
      obtain ⟨hok, hNt⟩ := ok_of_check hk
      have hN := (cons_iff hok).1 hc
      have htop := hok.top
      have hpos := hok.pos
      have h14' := h14 hk
      have hfit : ∀ a b, a < N.toNat → b < N.toNat → fitB (gt (distF bs N.toNat a) b) = true := fun a b ha hb =>
        List.all_eq_true.1 (List.all_eq_true.1 h2 a (List.mem_range.2 ha)) b (List.mem_range.2 hb)
      have hlive : ∀ b ∈ clA bs N.toNat N.toNat, b.gone = false := fun b hb => by
        obtain ⟨a, b, _, _, _, _, rfl⟩ := mem_clA.1 hb
        rfl
      have hlen : (clA bs N.toNat N.toNat).length ≤ 2000 := by
        have := clA_length bs N.toNat N.toNat
        have h3 : N.toNat ≤ 14 := by omega
        have : N.toNat * N.toNat ≤ 14 * 14 := Nat.mul_le_mul h3 h3
        omega
      have hck : check N (clA bs N.toNat N.toNat) = 0 := by
        refine check_mk hlen (by omega) (by omega) fun x hx => ?_
        obtain ⟨a, b, ha, hb, hab, hne, rfl⟩ := mem_clA.1 hx
        have hf := hfit a b ha hb
        rw [fitB, Bool.or_eq_true, decide_eq_true_eq] at hf
        have hf2 := hf.resolve_left hne
        rw [within, Bool.and_eq_true, decide_eq_true_eq, decide_eq_true_eq] at hf2
        exact valid_iff.2 ⟨⟨by simp, by simp only; omega⟩, ⟨by simp, by simp only; omega⟩, by simp only [ne_eq]; omega, hf2, by simp, by simp⟩
      obtain ⟨hokc, _⟩ := ok_of_check hck
      have hpot : ∀ y, Pot (clA bs N.toNat N.toNat) y ↔ Pot bs y := fun y => by
        rw [pot_mem hlive]
        constructor
        · intro hy i hi
          obtain ⟨p1, p2, p3, p4, p5, p6⟩ := hok.pts hi
          have hft : (bd bs i).f ≠ (bd bs i).t := (valid_iff.1 (check_valid hk _ (bd_mem hi.1))).2.2.1
          have hd := dist_ok hok hN p1
          have he := hd.le _ _ _ (Pth.one hi)
          have := hy ⟨((bd bs i).f.toNat : Nat), ((bd bs i).t.toNat : Nat), gt (distF bs N.toNat (bd bs i).f.toNat) (bd bs i).t.toNat, 0, false⟩ (mem_clA.2 ⟨_, _, p1, p2, by omega, he.1, rfl⟩)
          simp only [Int.toNat_natCast] at this
          omega
        · intro hy x hx
          obtain ⟨a, b, ha, hb, hab, hne, rfl⟩ := mem_clA.1 hx
          have := (dist_ok hok hN ha).pot (v := b) (by omega) hne hy
          simp only [Int.toNat_natCast]
          exact this
      have hcc : consF (clA bs N.toNat N.toNat) N.toNat = true := by rw [← cons_eq hok hokc hpot]; exact hc
      have hNc := (cons_iff hokc).1 hcc
      have hsame : ∀ a b : Nat, a < N.toNat → b < N.toNat → gt (distF (clA bs N.toNat N.toNat) N.toNat a) b = gt (distF bs N.toNat a) b := fun a b ha hb => (dist_eq hok hokc hN hNc hpot ha hb).symm
      have hsd : soundF N (clA bs N.toNat N.toNat) [] = 0 := by rw [sound_nil, if_pos hck, if_pos hcc]
      have hcl : clA (clA bs N.toNat N.toNat) N.toNat N.toNat = clA bs N.toNat N.toNat := clA_congr hsame
      have hff : fitA (clA bs N.toNat N.toNat) N.toNat N.toNat = true := by
        refine List.all_eq_true.2 fun a ha => List.all_eq_true.2 fun b hb => ?_
        rw [hsame a b (List.mem_range.1 ha) (List.mem_range.1 hb)]
        exact hfit a b (List.mem_range.1 ha) (List.mem_range.1 hb)
      refine ⟨rfl, h1, hlen, hck, hlive, hsd, hsame, ?_⟩
      rw [clsF, if_pos hsd, if_pos hff, hcl]
    · rw [if_neg h2] at h
      cases h
  · rw [if_neg h1] at h
    exact absurd h h1

end Go.Proofs.Ytppfpdhgckghdaa.Ln
