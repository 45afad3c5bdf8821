/-
  The reference's Needless, plainly: what stays, as a list of its own.
-/
import Derived.Test.YtdndhfggdjphjaaNeed
import Derived.Test.YtdndhfggdjphjaaMtx
set_option linter.unusedVariables false
set_option linter.unusedSimpArgs false
namespace Go.Proofs.Ytdndhfggdjphjaa.Ln

/-- The bounds that are not gone. -/
def alive (cs : List Bd) : List Bd := cs.filter (fun b => !b.gone)
theorem alive_live (cs : List Bd) : ∀ b ∈ alive cs, b.gone = false := fun b hb => by
  have := (List.mem_filter.1 hb).2
  simpa using this
theorem alive_mem {cs : List Bd} {b : Bd} : b ∈ alive cs ↔ b ∈ cs ∧ b.gone = false := by
  unfold alive
  rw [List.mem_filter]
  simp
theorem alive_id {cs : List Bd} (h : ∀ b ∈ cs, b.gone = false) : alive cs = cs := by
  unfold alive
  rw [List.filter_eq_self]
  intro b hb
  rw [h b hb]
  rfl
theorem alive_length (cs : List Bd) : (alive cs).length ≤ cs.length := List.length_filter_le _ _
theorem pot_mem {cs : List Bd} {y : Nat → Int} : Pot cs y ↔ ∀ b ∈ cs, b.gone = false → y b.t.toNat ≤ y b.f.toNat + b.m := by
  constructor
  · intro h b hb hg
    obtain ⟨i, hi, rfl⟩ := List.getElem_of_mem hb
    have := h i ⟨hi, by rw [bd_eq hi]; exact hg⟩
    rw [bd_eq hi] at this
    exact this
  · intro h i hi
    exact h _ (bd_mem hi.1) hi.2
theorem pot_alive {cs : List Bd} {y : Nat → Int} : Pot (alive cs) y ↔ Pot cs y := by
  rw [pot_mem, pot_mem]
  exact ⟨fun h b hb hg => h b (alive_mem.2 ⟨hb, hg⟩) hg, fun h b hb hg => h b (alive_mem.1 hb).1 hg⟩
theorem alive_ok {N : Nat} {cs : List Bd} (h : Ok N cs) : Ok N (alive cs) := ⟨h.pos, h.top, Nat.le_trans (alive_length cs) h.len, fun b hb => h.each b (alive_mem.1 hb).1⟩
theorem split_bd {cs : List Bd} {i : Nat} (hi : i < cs.length) : cs = cs.take i ++ bd cs i :: cs.drop (i + 1) := by
  rw [bd_eq hi]
  conv => lhs; rw [← List.take_append_drop i cs, List.drop_eq_getElem_cons hi]
theorem alive_split {cs : List Bd} {i : Nat} (hi : i < cs.length) (h : ∀ k, k ≤ i → (bd cs k).gone = false) :
    alive cs = cs.take i ++ bd cs i :: alive (cs.drop (i + 1)) ∧ alive (kill cs i) = cs.take i ++ alive (cs.drop (i + 1)) := by
  have ht : alive (cs.take i) = cs.take i := alive_id fun b hb => by
    obtain ⟨k, hk, rfl⟩ := List.getElem_of_mem hb
    rw [List.length_take] at hk
    have := h k (by omega)
    rw [bd_eq (by omega)] at this
    rw [List.getElem_take]
    exact this
  have hk : kill cs i = cs.take i ++ { bd cs i with gone := true } :: cs.drop (i + 1) := by
    unfold kill
    conv => lhs; arg 1; rw [split_bd hi]
    rw [List.set_append_right _ _ (by rw [List.length_take]; omega), List.length_take, show i - min i cs.length = 0 from by omega, List.set_cons_zero]
  constructor
  · conv => lhs; rw [split_bd hi]
    unfold alive at ht ⊢
    rw [List.filter_append, ht, List.filter_cons, h i (Nat.le_refl _)]
    rfl
  · rw [hk]
    unfold alive at ht ⊢
    rw [List.filter_append, ht, List.filter_cons]
    rfl
theorem alive_take {cs : List Bd} {i : Nat} (hi : i < cs.length) (h : ∀ k, k ≤ i → (bd cs k).gone = false) :
    i < (alive cs).length ∧ bd (alive cs) i = bd cs i ∧ alive (kill cs i) = (alive cs).take i ++ (alive cs).drop (i + 1) := by
  obtain ⟨h1, h2⟩ := alive_split hi h
  have hl : (cs.take i).length = i := by rw [List.length_take]; omega
  refine ⟨by rw [h1]; simp; omega, ?_, ?_⟩
  · unfold bd at h1 ⊢
    rw [h1, List.getD_eq_getElem?_getD, List.getElem?_append_right (by omega), hl, Nat.sub_self]
    rfl
  · rw [h2, h1]
    obtain ⟨l, hle⟩ : ∃ l, cs.take i = l := ⟨_, rfl⟩
    rw [hle] at hl ⊢
    obtain ⟨X, hX⟩ : ∃ X, alive (cs.drop (i + 1)) = X := ⟨_, rfl⟩
    rw [hX]
    have e1 : (l ++ bd cs i :: X).take i = l := by rw [← hl]; simp
    have e2 : (l ++ bd cs i :: X).drop (i + 1) = X := by
      rw [← hl, List.drop_append, List.drop_eq_nil_of_le (Nat.le_succ _), Nat.add_sub_cancel_left]
      rfl
    rw [e1, e2]

/-- The state behind j bounds, from the last one on. -/
def ndK (bs : List Bd) (N j : Nat) : List Bd × List Nat := needK bs N ((List.range j).map fun k => bs.length - 1 - k)
theorem ndK_zero (bs : List Bd) (N : Nat) : ndK bs N 0 = (bs, []) := rfl
theorem ndK_succ (bs : List Bd) (N j : Nat) : ndK bs N (j + 1) = needS N (ndK bs N j) (bs.length - 1 - j) := by
  unfold ndK
  rw [List.range_succ, List.map_append, List.map_singleton, needK_snoc]
structure NdI (bs : List Bd) (N j : Nat) (cs : List Bd) : Prop where
  ok : Ok N cs
  len : cs.length = bs.length
  same : ∀ i, (bd cs i).f = (bd bs i).f ∧ (bd cs i).t = (bd bs i).t ∧ (bd cs i).m = (bd bs i).m ∧ (bd cs i).r = (bd bs i).r
  live : ∀ k, k + j < bs.length → (bd cs k).gone = false
theorem ndK_ok {bs : List Bd} {N : Nat} (hok : Ok N bs) (hl : ∀ b ∈ bs, b.gone = false) (j : Nat) (hj : j ≤ bs.length) : NdI bs N j (ndK bs N j).1 := by
  have hlv : ∀ k, k + j < bs.length → (bd (ndK bs N j).1 k).gone = false := by
    induction j with
    | zero => intro k hk; exact hl _ (bd_mem (by omega))
    | succ j ih =>
    have ih := ih (by omega)
    intro k hk
    rw [ndK_succ, needS]
    split
    · rw [(kill_bd (bs := (ndK bs N j).1) (x := bs.length - 1 - j) k).2.2.2.2, if_neg (by omega)]
      exact ih k (by omega)
    · exact ih k (by omega)
  obtain ⟨a, b, _, d⟩ := needK_same hok ((List.range j).map fun k => bs.length - 1 - k)
  exact ⟨a, b, d, hlv⟩
theorem NdI.pot {bs : List Bd} {N j : Nat} {cs : List Bd} (h : NdI bs N j cs) (hl : ∀ b ∈ bs, b.gone = false) {y : Nat → Int} (hy : Pot bs y) : Pot cs y := fun i hi => by
  have hs := h.same i
  have hib : i < bs.length := by rw [← h.len]; exact hi.1
  have := hy i ⟨hib, hl _ (bd_mem hib)⟩
  rw [hs.1, hs.2.1, hs.2.2.1]
  exact this
theorem kill_pot {cs : List Bd} {x : Nat} {y : Nat → Int} (h : Pot cs y) : Pot (kill cs x) y := fun i hi => by
  obtain ⟨a, b, c, d, e⟩ := kill_bd (bs := cs) (x := x) i
  have h1 := hi.1
  have h2 := hi.2
  rw [kill_length] at h1
  rw [e] at h2
  split at h2
  · cases h2
  · have := h i ⟨h1, h2⟩
    rw [a, b, c]
    exact this

/-- One bound looked at by the reference. -/
structure NdR (bs : List Bd) (N j : Nat) : Prop where
  at_ : bs.length - 1 - j < (alive (ndK bs N j).1).length
  bd_ : bd (alive (ndK bs N j).1) (bs.length - 1 - j) = bd (ndK bs N j).1 (bs.length - 1 - j)
  rest : alive (kill (ndK bs N j).1 (bs.length - 1 - j)) = (alive (ndK bs N j).1).take (bs.length - 1 - j) ++ (alive (ndK bs N j).1).drop (bs.length - 1 - j + 1)
  ok : Ok N (alive (kill (ndK bs N j).1 (bs.length - 1 - j)))
  noNeg : NoNeg (alive (kill (ndK bs N j).1 (bs.length - 1 - j)))
  same : ∀ a b, a < N → b < N → gt (distF (alive (kill (ndK bs N j).1 (bs.length - 1 - j))) N a) b = gt (distF (kill (ndK bs N j).1 (bs.length - 1 - j)) N a) b
  pts : (bd (ndK bs N j).1 (bs.length - 1 - j)).f.toNat < N ∧ (bd (ndK bs N j).1 (bs.length - 1 - j)).t.toNat < N ∧ 0 ≤ (bd (ndK bs N j).1 (bs.length - 1 - j)).f ∧ 0 ≤ (bd (ndK bs N j).1 (bs.length - 1 - j)).t ∧ -1000000 ≤ (bd (ndK bs N j).1 (bs.length - 1 - j)).m ∧ (bd (ndK bs N j).1 (bs.length - 1 - j)).m ≤ 1000000
theorem ndR {bs : List Bd} {N : Nat} (hok : Ok N bs) (hl : ∀ b ∈ bs, b.gone = false) (hN : NoNeg bs) {j : Nat} (hj : j < bs.length) : NdR bs N j := by
  have I := ndK_ok hok hl j (by omega)
  obtain ⟨cs, hcs⟩ : ∃ cs, (ndK bs N j).1 = cs := ⟨_, rfl⟩
  obtain ⟨i, hi⟩ : ∃ i, bs.length - 1 - j = i := ⟨_, rfl⟩
  have hil : i < cs.length := by rw [← hcs, I.len]; omega
  obtain ⟨y, hy⟩ := pot_of_cons hok ((cons_iff hok).2 hN)
  rw [hcs] at I
  obtain ⟨a1, a2, a3⟩ := alive_take hil (fun k hk => I.live k (by omega))
  have hyk : Pot (kill cs i) y := kill_pot (I.pot hl hy)
  have hok1 := kill_ok I.ok i
  have hb := hok1.each _ (bd_mem (by rw [kill_length]; exact hil))
  have hkb := kill_bd (bs := cs) (x := i) i
  rw [hkb.1, hkb.2.1, hkb.2.2.1] at hb
  refine ⟨by rw [hcs, hi]; exact a1, by rw [hcs, hi]; exact a2, by rw [hcs, hi]; exact a3, by rw [hcs, hi]; exact alive_ok hok1, by rw [hcs, hi]; exact (pot_alive.2 hyk).noNeg, fun a b ha hb => ?_, ?_⟩
  · rw [hcs, hi]
    exact dist_eq (alive_ok hok1) hok1 (pot_alive.2 hyk).noNeg hyk.noNeg (fun y => pot_alive.symm) ha hb
  · rw [hcs, hi]
    omega
/-- What comes of it. -/
theorem ndK_next {bs : List Bd} {N j : Nat} {x : Int} (hx : gt (distF (kill (ndK bs N j).1 (bs.length - 1 - j)) N (bd (ndK bs N j).1 (bs.length - 1 - j)).f.toNat) (bd (ndK bs N j).1 (bs.length - 1 - j)).t.toNat = x) (hm : (bd (ndK bs N j).1 (bs.length - 1 - j)).m ≤ 1000000) :
    (((ffar x).2 = true ∧ (ffar x).1 ≤ (bd (ndK bs N j).1 (bs.length - 1 - j)).m) → ndK bs N (j + 1) = (kill (ndK bs N j).1 (bs.length - 1 - j), (ndK bs N j).2 ++ [bs.length - 1 - j])) ∧
    (¬ ((ffar x).2 = true ∧ (ffar x).1 ≤ (bd (ndK bs N j).1 (bs.length - 1 - j)).m) → ndK bs N (j + 1) = ndK bs N j) := by
  have hNN : NONE = 9223372036854775807 := rfl
  have key : ((ffar x).2 = true ∧ (ffar x).1 ≤ (bd (ndK bs N j).1 (bs.length - 1 - j)).m) ↔ x ≤ (bd (ndK bs N j).1 (bs.length - 1 - j)).m := by
    unfold ffar
    by_cases e : x = NONE
    · rw [if_pos e]
      simp
      omega
    · rw [if_neg e]
      simp
  rw [ndK_succ, needS, hx, key]
  exact ⟨fun h => if_pos h, fun h => if_neg h⟩
theorem ndF_ok {N : Int} {bs : List Bd} (h : soundF N bs [] = 0) : ndF N bs = ((ndK bs N.toNat bs.length).2.reverse, 0) := by rw [ndF, if_pos h]; rfl
theorem ndK_length {bs : List Bd} {N : Nat} (hok : Ok N bs) (j : Nat) : (ndK bs N j).2.length ≤ j := by
  have := (needK_same hok ((List.range j).map fun k => bs.length - 1 - k)).2.2.1
  simpa [ndK] using this

end Go.Proofs.Ytdndhfggdjphjaa.Ln
