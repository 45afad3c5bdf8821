/-
  Needless, plainly: what is taken out changes no distance, and nothing more can be.
-/
import Derived.Test.YtdndhfggdjphjaaNdlM
import Derived.Test.YtdndhfggdjphjaaAlk
set_option linter.unusedVariables false
set_option linter.unusedSimpArgs false
namespace Go.Proofs.Ytdndhfggdjphjaa.Ln

/-- The bounds without those of some indices. -/
def takK (bs : List Bd) (l : List Int) (k : Nat) : List Bd := ((List.range k).filter (fun i : Nat => !decide ((i : Int) ∈ l))).map (bd bs)
def takF (bs : List Bd) (l : List Int) : List Bd := takK bs l bs.length
theorem takK_hit {bs : List Bd} {l : List Int} {k : Nat} (h : (k : Int) ∉ l) : takK bs l (k + 1) = takK bs l k ++ [bd bs k] := by simp [takK, List.range_succ, h]
theorem takK_miss {bs : List Bd} {l : List Int} {k : Nat} (h : (k : Int) ∈ l) : takK bs l (k + 1) = takK bs l k := by simp [takK, List.range_succ, h]
theorem takK_length (bs : List Bd) (l : List Int) (k : Nat) : (takK bs l k).length ≤ k := by
  unfold takK
  rw [List.length_map]
  have := List.length_filter_le (fun i : Nat => !decide ((i : Int) ∈ l)) (List.range k)
  simpa using this
theorem takF_mem {bs : List Bd} {l : List Int} {b : Bd} : b ∈ takF bs l ↔ ∃ i, i < bs.length ∧ (i : Int) ∉ l ∧ bd bs i = b := by
  unfold takF takK
  simp only [List.mem_map, List.mem_filter, List.mem_range, Bool.not_eq_true', decide_eq_false_iff_not]
  exact ⟨fun ⟨i, ⟨a, b⟩, c⟩ => ⟨i, a, b, c⟩, fun ⟨i, a, b, c⟩ => ⟨i, ⟨a, b⟩, c⟩⟩
theorem takF_sub {bs : List Bd} {l : List Int} {b : Bd} (h : b ∈ takF bs l) : b ∈ bs := by
  obtain ⟨i, hi, _, rfl⟩ := takF_mem.1 h
  exact bd_mem hi
theorem takF_check {N : Int} {bs : List Bd} (l : List Int) (h : check N bs = 0) : check N (takF bs l) = 0 := by
  obtain ⟨h1, h2, h3⟩ := check_len h
  exact check_mk (Nat.le_trans (takK_length bs l bs.length) h1) h2 h3 (fun b hb => check_valid h b (takF_sub hb))
theorem takF_pot {bs : List Bd} (l : List Int) {y : Nat → Int} (h : Pot bs y) : Pot (takF bs l) y := pot_mem.2 fun b hb hg => pot_mem.1 h b (takF_sub hb) hg
theorem takF_sound {N : Int} {bs : List Bd} (l : List Int) {ps : List Int} (h : soundF N bs ps = 0) : soundF N (takF bs l) ps = 0 := by
  obtain ⟨h1, h2, h3⟩ := sound_zero h
  obtain ⟨hok, _⟩ := ok_of_check h3
  have hk := takF_check l h3
  obtain ⟨hok2, _⟩ := ok_of_check hk
  obtain ⟨y, hy⟩ := pot_of_cons hok h2
  rw [soundF, ← cp_eq h3 hk, if_pos h1, if_pos ((cons_pot hok2).2 ⟨y, takF_pot l hy⟩)]

/-- Who is gone. -/
theorem ndK_gone {bs : List Bd} {N : Nat} (hok : Ok N bs) (hl : ∀ b ∈ bs, b.gone = false) (j : Nat) (hj : j ≤ bs.length) (i : Nat) (hi : i < bs.length) : (bd (ndK bs N j).1 i).gone = decide (i ∈ (ndK bs N j).2) := by
  induction j with
  | zero =>
    rw [ndK_zero]
    simp only [List.not_mem_nil, decide_false]
    exact hl _ (bd_mem hi)
  | succ j ih =>
    have ih := ih (by omega)
    have I := ndK_ok hok hl j (by omega)
    rw [ndK_succ, needS]
    split
    · rw [(kill_bd (bs := (ndK bs N j).1) (x := bs.length - 1 - j) i).2.2.2.2]
      by_cases e : i = bs.length - 1 - j
      · rw [if_pos ⟨e, by rw [I.len]; omega⟩]
        simp [e]
      · rw [if_neg (fun h => e h.1), ih]
        simp [e]
    · exact ih
theorem ndK_bd {bs : List Bd} {N : Nat} (hok : Ok N bs) (hl : ∀ b ∈ bs, b.gone = false) (j : Nat) (hj : j ≤ bs.length) {i : Nat} (hi : i < bs.length) (hg : (bd (ndK bs N j).1 i).gone = false) : bd (ndK bs N j).1 i = bd bs i := by
  have h := (ndK_ok hok hl j hj).same i
  have h2 := hl _ (bd_mem hi)
  obtain ⟨a, b, c, d⟩ := h
  revert a b c d hg h2
  generalize bd (ndK bs N j).1 i = x
  generalize bd bs i = y
  intro hg h2 a b c d
  cases x
  cases y
  simp_all
/-- A bound taken out was implied by the others. -/
theorem ndK_pot {bs : List Bd} {N : Nat} (hok : Ok N bs) (hl : ∀ b ∈ bs, b.gone = false) (hN : NoNeg bs) (j : Nat) (hj : j ≤ bs.length) {y : Nat → Int} : Pot (ndK bs N j).1 y ↔ Pot bs y := by
  refine ⟨?_, fun h => (ndK_ok hok hl j hj).pot hl h⟩
  induction j with
  | zero => exact id
  | succ j ih =>
    intro h
    have ih := ih (by omega)
    have I := ndK_ok hok hl j (by omega)
    obtain ⟨y0, hy0⟩ := pot_of_cons hok ((cons_iff hok).2 hN)
    rw [ndK_succ, needS] at h
    split at h
    · rename_i hle
      refine ih fun i hi => ?_
      dsimp only at h
      by_cases e : i = bs.length - 1 - j
      · have hil : bs.length - 1 - j < (ndK bs N j).1.length := by rw [I.len]; omega
        have hk := kill_ok I.ok (bs.length - 1 - j)
        have hb := I.ok.each _ (bd_mem hil)
        have hnn : NoNeg (kill (ndK bs N j).1 (bs.length - 1 - j)) := (kill_pot (I.pot hl hy0)).noNeg
        have hd := dist_ok hk hnn (a := (bd (ndK bs N j).1 (bs.length - 1 - j)).f.toNat) (by omega)
        have ht := hok.top
        have hNN : NONE = 9223372036854775807 := rfl
        have := hd.pot (v := (bd (ndK bs N j).1 (bs.length - 1 - j)).t.toNat) (by omega) (by omega) h
        rw [e]
        omega
      · have hkb := kill_bd (bs := (ndK bs N j).1) (x := bs.length - 1 - j) i
        have := h i ⟨by rw [kill_length]; exact hi.1, by rw [hkb.2.2.2.2, if_neg (fun h => e h.1)]; exact hi.2⟩
        rw [hkb.1, hkb.2.1, hkb.2.2.1] at this
        exact this
    · exact ih h
theorem ndK_alive {bs : List Bd} {N : Nat} (hok : Ok N bs) (hl : ∀ b ∈ bs, b.gone = false) (j : Nat) (hj : j ≤ bs.length) : (alive (ndK bs N j).1).length + (ndK bs N j).2.length = bs.length := by
  induction j with
  | zero => rw [ndK_zero]; simp [alive_id hl]
  | succ j ih =>
    have ih := ih (by omega)
    have I := ndK_ok hok hl j (by omega)
    rw [ndK_succ, needS]
    split
    · obtain ⟨a, _, b⟩ := alive_take (cs := (ndK bs N j).1) (i := bs.length - 1 - j) (by rw [I.len]; omega) (fun k hk => I.live k (by omega))
      dsimp only
      rw [b, List.length_append, List.length_take, List.length_drop, List.length_append, List.length_singleton]
      omega
    · exact ih
theorem range_bd (cs : List Bd) : (List.range cs.length).map (bd cs) = cs := by
  apply List.ext_getElem
  · simp
  · intro i h1 h2
    simp only [List.getElem_map, List.getElem_range]
    exact bd_eq h2
theorem alive_range (cs : List Bd) : alive cs = ((List.range cs.length).filter (fun i => !(bd cs i).gone)).map (bd cs) := by
  conv => lhs; rw [← range_bd cs]
  unfold alive
  rw [List.filter_map]
  rfl
/-- What Needless leaves. -/
theorem tak_alive {bs : List Bd} {N : Nat} (hok : Ok N bs) (hl : ∀ b ∈ bs, b.gone = false) : takF bs (zl (ndK bs N bs.length).2.reverse) = alive (ndK bs N bs.length).1 := by
  have I := ndK_ok hok hl bs.length (Nat.le_refl _)
  rw [alive_range, I.len]
  unfold takF takK
  have hf : ∀ i, i ∈ List.range bs.length → (!decide ((i : Int) ∈ zl (ndK bs N bs.length).2.reverse)) = !(bd (ndK bs N bs.length).1 i).gone := fun i hi => by
    rw [ndK_gone hok hl bs.length (Nat.le_refl _) i (List.mem_range.1 hi)]
    congr 1
    rw [Bool.eq_iff_iff]
    simp only [zl, decide_eq_true_eq, List.mem_map, List.mem_reverse]
    exact ⟨fun ⟨a, ha, e⟩ => by
      obtain rfl : a = i := by omega
      exact ha, fun h => ⟨i, h, rfl⟩⟩
  rw [List.filter_congr hf]
  refine List.map_congr_left fun i hi => ?_
  obtain ⟨h1, h2⟩ := List.mem_filter.1 hi
  exact (ndK_bd hok hl bs.length (Nat.le_refl _) (List.mem_range.1 h1) (by simpa using h2)).symm

/-- What the law asks of Needless. -/
structure NedOk (N : Int) (bs : List Bd) (L : List Int) : Prop where
  len : (takF bs L).length + L.length = bs.length
  alike : Alike N bs N (takF bs L)
  fine : ∀ k : Nat, k < N.toNat → (dsF N (takF bs L) k).2.2 = 0 ∧ ∀ l, (dsF N (takF (takF bs L) l) k).2.2 = 0
  not : ∀ x : Nat, x < (takF bs L).length → ∃ k : Nat, k < N.toNat ∧ ¬ ((dsF N (takF (takF bs L) [(x : Int)]) k).1 = (dsF N (takF bs L) k).1 ∧ (dsF N (takF (takF bs L) [(x : Int)]) k).2.1 = (dsF N (takF bs L) k).2.1)
theorem dsF_at {N : Int} {bs : List Bd} {a : Nat} (h : soundF N bs [(a : Int)] = 0) : dsF N bs a = (dsS N bs a N.toNat, dsI N bs a N.toNat, 0) := by rw [dsF, if_pos h]
theorem cp_one {N : Int} {bs : List Bd} {a : Nat} (h : soundF N bs [] = 0) (ha : a < N.toNat) : soundF N bs [(a : Int)] = 0 := by
  obtain ⟨h1, h2, h3⟩ := sound_zero h
  have h4 : cpF N bs [(a : Int)] = 0 := by
    rw [cpF, if_pos h3, if_pos]
    simp [isPoint]
    omega
  rw [soundF, if_pos h4, if_pos h2]
theorem ndK_mono {bs : List Bd} {N j i : Nat} (d : Nat) (h : i ∈ (ndK bs N j).2) : i ∈ (ndK bs N (j + d)).2 := by
  induction d with
  | zero => exact h
  | succ d ih =>
    rw [← Nat.add_assoc, ndK_succ, needS]
    split
    · exact List.mem_append.2 (.inl ih)
    · exact ih
theorem dsS_at {N : Int} {bs : List Bd} {a b : Nat} (hb : b < N.toNat) : (dsS N bs a N.toNat)[b]? = some (ffar (dF N bs a b)).1 := by simp [dsS, hb]
theorem dsI_at {N : Int} {bs : List Bd} {a b : Nat} (hb : b < N.toNat) : (dsI N bs a N.toNat)[b]? = some (ffar (dF N bs a b)).2 := by simp [dsI, hb]
theorem ned_ok {N : Int} {bs : List Bd} (hl : ∀ b ∈ bs, b.gone = false) (hs : soundF N bs [] = 0) : NedOk N bs (zl (ndF N bs).1) := by
  obtain ⟨h1, h2, h3⟩ := sound_zero hs
  obtain ⟨hok, hNt⟩ := ok_of_check h3
  have hN := (cons_iff hok).1 h2
  rw [ndF_ok hs]
  dsimp only
  have hta := tak_alive (N := N.toNat) hok hl
  obtain ⟨L, hL⟩ : ∃ L, zl (ndK bs N.toNat bs.length).2.reverse = L := ⟨_, rfl⟩
  have hLl : L.length = (ndK bs N.toNat bs.length).2.length := by rw [← hL, zl_length, List.length_reverse]
  rw [hL] at hta ⊢
  have hs2 := takF_sound L hs
  have hk2 := takF_check L h3
  obtain ⟨hok2, _⟩ := ok_of_check hk2
  have hN2 := (cons_iff hok2).1 (sound_zero hs2).2.1
  have hpp : ∀ y, Pot (takF bs L) y ↔ Pot bs y := fun y => by rw [hta, pot_alive, ndK_pot hok hl hN bs.length (Nat.le_refl _)]
  have hdd : ∀ a b, a < N.toNat → b < N.toNat → gt (distF bs N.toNat a) b = gt (distF (takF bs L) N.toNat a) b := fun a b ha hb => dist_eq hok hok2 hN hN2 hpp ha hb
  refine ⟨by rw [hta, hLl]; exact ndK_alive hok hl bs.length (Nat.le_refl _), ⟨fun k hk => by rw [dsF_at (cp_one hs hk)], fun k hk => ?_⟩, fun k hk => ⟨by rw [dsF_at (cp_one hs2 hk)], fun l => by rw [dsF_at (cp_one (takF_sound l hs2) hk)]⟩, fun x hx => ?_⟩
  · rw [dsF_at (cp_one hs hk), dsF_at (cp_one hs2 hk)]
    have e : ∀ b : Nat, b < N.toNat → ffar (dF N (takF bs L) k b) = ffar (dF N bs k b) := fun b hb => by
      rw [dF, dF, Int.toNat_natCast, Int.toNat_natCast, hdd k b hk hb]
    have e1 : dsS N (takF bs L) k N.toNat = dsS N bs k N.toNat := List.map_congr_left fun b hb => by rw [e b (List.mem_range.1 hb)]
    have e2 : dsI N (takF bs L) k N.toNat = dsI N bs k N.toNat := List.map_congr_left fun b hb => by rw [e b (List.mem_range.1 hb)]
    rw [e1, e2]
  · -- The bound at x, and where it stood.
    obtain ⟨ks, hks⟩ : ∃ ks : List Nat, (List.range bs.length).filter (fun i : Nat => !decide ((i : Int) ∈ L)) = ks := ⟨_, rfl⟩
    have hts : takF bs L = ks.map (bd bs) := by rw [← hks]; rfl
    have hkn : ks.Nodup := by rw [← hks]; exact List.nodup_range.filter _
    have hkm : ∀ i ∈ ks, i < bs.length ∧ (i : Int) ∉ L := fun i hi => by
      rw [← hks, List.mem_filter, List.mem_range] at hi
      exact ⟨hi.1, by simpa using hi.2⟩
    have hxk : x < ks.length := by rw [hts, List.length_map] at hx; exact hx
    have hbx : bd (takF bs L) x = bd bs ks[x] := by
      rw [bd_eq hx]
      simp [hts]
    obtain ⟨hil, hiL⟩ := hkm _ (List.getElem_mem hxk)
    obtain ⟨i, hi⟩ : ∃ i, ks[x] = i := ⟨_, rfl⟩
    rw [hi] at hbx hil hiL
    -- Who stays without it: bounds of other indices.
    have hsub : ∀ b ∈ takF (takF bs L) [(x : Int)], ∃ i', i' < bs.length ∧ (i' : Int) ∉ L ∧ i' ≠ i ∧ bd bs i' = b := fun b hb => by
      obtain ⟨z, hz, hzx, rfl⟩ := takF_mem.1 hb
      have hzk : z < ks.length := by rw [hts, List.length_map] at hz; exact hz
      obtain ⟨a1, a2⟩ := hkm _ (List.getElem_mem hzk)
      refine ⟨ks[z], a1, a2, fun e => ?_, by rw [bd_eq hz]; simp [hts]⟩
      rw [← hi] at e
      have := (List.getElem_inj hkn).1 e
      simp at hzx
      omega
    -- When it was looked at.
    obtain ⟨j, hj⟩ : ∃ j, bs.length - 1 - j = i ∧ j < bs.length := ⟨bs.length - 1 - i, by omega, by omega⟩
    obtain ⟨hji, hjl⟩ := hj
    have I := ndK_ok hok hl j (by omega)
    have hLmem : ∀ z : Nat, (z : Int) ∉ L → z ∉ (ndK bs N.toNat bs.length).2 := fun z hz h => hz (by
      rw [← hL]
      simp only [zl, List.mem_map, List.mem_reverse]
      exact ⟨z, h, rfl⟩)
    have hstay : ∀ z : Nat, (z : Int) ∉ L → ∀ j', j' ≤ bs.length → z ∉ (ndK bs N.toNat j').2 := fun z hz j' hj' h => hLmem z hz (by
      have := ndK_mono (bs.length - j') h
      rw [show j' + (bs.length - j') = bs.length from by omega] at this
      exact this)
    have hbi : bd (ndK bs N.toNat j).1 i = bd bs i := ndK_bd hok hl j (by omega) hil (I.live i (by omega))
    have hgt : (bd bs i).m < gt (distF (kill (ndK bs N.toNat j).1 i) N.toNat (bd bs i).f.toNat) (bd bs i).t.toNat := by
      refine Int.lt_of_not_ge fun hle => hstay i hiL (j + 1) (by omega) ?_
      rw [ndK_succ, needS, hji, hbi, if_pos hle]
      simp
    obtain ⟨y0, hy0⟩ := pot_of_cons hok h2
    have hkk := kill_ok I.ok i
    have hkp : ∀ y, Pot (kill (ndK bs N.toNat j).1 i) y → Pot (takF (takF bs L) [(x : Int)]) y := fun y hy => pot_mem.2 fun b hb hg => by
      obtain ⟨i', c1, c2, c3, rfl⟩ := hsub b hb
      have hg' : (bd (ndK bs N.toNat j).1 i').gone = false := by
        rw [ndK_gone hok hl j (by omega) i' c1]
        simpa using hstay i' c2 j (by omega)
      have hb' := ndK_bd hok hl j (by omega) c1 hg'
      obtain ⟨d1, d2, d3, d4, d5⟩ := kill_bd (bs := (ndK bs N.toNat j).1) (x := i) i'
      have := hy i' ⟨by rw [kill_length, I.len]; exact c1, by rw [d5, if_neg (fun h => c3 h.1)]; exact hg'⟩
      rw [d1, d2, d3, hb'] at this
      exact this
    have hs3 := takF_sound [(x : Int)] hs2
    have hk3 := takF_check [(x : Int)] hk2
    obtain ⟨hok3, _⟩ := ok_of_check hk3
    have hN3 := (cons_iff hok3).1 (sound_zero hs3).2.1
    have hkn2 : NoNeg (kill (ndK bs N.toNat j).1 i) := (kill_pot (I.pot hl hy0)).noNeg
    have hpt := hok.each _ (bd_mem hil)
    have hft : (bd bs i).f.toNat < N.toNat ∧ (bd bs i).t.toNat < N.toNat := by omega
    have hNN : NONE = 9223372036854775807 := rfl
    refine ⟨(bd bs i).f.toNat, hft.1, fun ⟨q1, q2⟩ => ?_⟩
    rw [dsF_at (cp_one hs3 hft.1), dsF_at (cp_one hs2 hft.1)] at q1 q2
    dsimp only at q1 q2
    have u1 := dsS_at (N := N) (bs := takF (takF bs L) [(x : Int)]) (a := (bd bs i).f.toNat) hft.2
    have u2 := dsI_at (N := N) (bs := takF (takF bs L) [(x : Int)]) (a := (bd bs i).f.toNat) hft.2
    rw [q1, dsS_at hft.2] at u1
    rw [q2, dsI_at hft.2] at u2
    simp only [Option.some.injEq] at u1 u2
    have hne : gt (distF (takF bs L) N.toNat (bd bs i).f.toNat) (bd bs i).t.toNat ≠ NONE ∧ gt (distF (takF bs L) N.toNat (bd bs i).f.toNat) (bd bs i).t.toNat ≤ (bd bs i).m := by
      have hp := Pth.one (bs := takF bs L) (i := x) ⟨hx, by rw [hbx]; exact hl _ (bd_mem hil)⟩
      rw [hbx] at hp
      exact (dist_ok hok2 hN2 hft.1).le _ _ _ hp
    rw [dF, dF, Int.toNat_natCast, Int.toNat_natCast] at u1 u2
    unfold ffar at u1 u2
    rw [if_neg hne.1] at u1 u2
    by_cases e : gt (distF (takF (takF bs L) [(x : Int)]) N.toNat (bd bs i).f.toNat) (bd bs i).t.toNat = NONE
    · rw [if_pos e] at u2
      cases u2
    · rw [if_neg e] at u1
      dsimp only at u1
      have := dist_le hok3 hkk hN3 hkn2 hkp hft.1 hft.2 e
      omega

end Go.Proofs.Ytdndhfggdjphjaa.Ln
