/-
  The reference's Some and Through, errors and all.
-/
import Derived.Test.YtppfpdhgckghdaaSomR
import Derived.Test.YtppfpdhgckghdaaThru
import Derived.Test.YtppfpdhgckghdaaLeaP
set_option linter.unusedVariables false
set_option linter.unusedSimpArgs false
namespace Go.Proofs.Ytppfpdhgckghdaa
open Go.RowKit Go.Shelf

set_option maxRecDepth 100000 in
set_option maxHeartbeats 2000000 in
theorem rSome_any (N : Int) (A : Option Addr) (c : Nat) (bs : List Ln.Bd) (w : World) (hR : Rd w w.heap.size 4 A bs.length (bcells bs)) (hc : Ln.Lv bs) (h14 : Ln.check N bs = 0 → N ≤ 14) :
    Calls Try.prog 37 #[.agg #[.int .i64 N, .slice A bs.length c]] w fun e w' => ∃ A' c', e = .returned (.tuple #[.slice A' (Ln.someF N bs).1.length c', .int .i64 (Ln.someF N bs).2]) ∧ Rd w' w'.heap.size 1 A' (Ln.someF N bs).1.length (ints (Ln.someF N bs).1) ∧ Below w.heap.size w w' := by
  have hB0 : Below w.heap.size w (w.alloc (.cells #[.int .i64 N, .slice A bs.length c] 24)) := (Below.refl _ _).alloc (Nat.le_refl _) _
  have hR1 := (hR.below hB0 (Nat.le_refl _)).more hB0.size
  have k0 := Bk.new w 24 #[.int .i64 N, .slice A bs.length c]
  have hP0 : ∀ w : World, Rd w w.heap.size 1 none ([] : List Int).length (ints []) := fun w => Rd.nil _ _ _ _
  by_cases hs : Ln.soundF N bs [] = 0
  · obtain ⟨hcp, hco, hck⟩ := Ln.sound_zero hs
    obtain ⟨hok, hNt⟩ := Ln.ok_of_check hck
    have hNN := (Ln.cons_iff hok).1 hco
    have h14' := h14 hck
    have hvl := Ln.valF_length bs N.toNat
    rw [show Ln.someF N bs = (Ln.valF bs N.toNat, 0) from by rw [Ln.someF, if_pos hs]]
    obtain ⟨n, hn⟩ : ∃ n, N.toNat = n := ⟨_, rfl⟩
    rw [hn] at hok hNt hvl ⊢
    subst hNt
    have hrun := fun A c w hR => rsome_run hok hc.live hNN (by omega) A c w hR
    obtain ⟨val, hval⟩ : ∃ val, Ln.valF bs n = val := ⟨_, rfl⟩
    simp only [hval] at hrun hvl ⊢
    have HRUN := Lib.hid hrun
    have HS := Lib.hid hs
    have HVL := Lib.hid hvl
    clear hs hcp hco hck hrun hval hvl hNN
    go_enter Try.func37, Try.ntmps37
    go_wp2_with fail
    refine (rpointed_any (n : Int) A c bs none 0 [] _ hR1 hc (hP0 _) (by simp)).mono ?_
    rw [HS.out]
    rintro e w1 ⟨rfl, hb1⟩
    have k1 := k0.below hb1 (by simp)
    have hB1 := hB0.trans (hb1.mono hB0.size)
    have hR2 := (hR.below hB1 (Nat.le_refl _)).more hB1.size
    have c0 := (k1.cell 0).trans rfl
    have c1 := (k1.cell 1).trans rfl
    go_wp2_with fail
    refine (HRUN.out A c _ hR2).mono ?_
    rintro e w2 ⟨g, rfl, hg, kV, hb2⟩
    have hB2 := hB1.trans (hb2.mono hB1.size)
    go_wp2_with fail
    go_ret2
    have hvl := HVL.out
    exact ⟨some ⟨g, 0, none⟩, n, by rw [hvl]; rfl, bk_rd kV (by omega), hB2⟩
  · rw [show Ln.someF N bs = ([], Ln.soundF N bs []) from by rw [Ln.someF, if_neg hs]]
    have hne : (Ln.soundF N bs [] != 0) = true := by simp [hs]
    have hcall := rpointed_any N A c bs none 0 [] _ hR1 hc (hP0 _) (by simp)
    obtain ⟨s, hss⟩ : ∃ s, Ln.soundF N bs [] = s := ⟨_, rfl⟩
    rw [hss] at hne hcall ⊢
    have HC := Lib.hid hcall
    clear hs hss hcall
    go_enter Try.func37, Try.ntmps37
    go_wp2_with fail
    refine HC.out.mono ?_
    rintro e w1 ⟨rfl, hb1⟩
    go_wp2_with fail
    go_ret2
    exact ⟨none, 0, rfl, Rd.nil _ _ _ _, hB0.trans (hb1.mono hB0.size)⟩

theorem thF_far {N : Int} {bs : List Ln.Bd} {p v : Int} (h : Ln.check N bs = 0) (hp : p < 0 ∨ N ≤ p) : Ln.thF N bs p v = ([], false, 1) := by
  have h1 : Ln.cpF N bs [p] = 1 := Ln.cpF_no (k := 0) h (by simp) (by simp [Ln.isPoint]; omega)
  rw [Ln.thF, if_neg (by rw [h1]; simp), h1]
theorem thF_v {N : Int} {bs : List Ln.Bd} {p v : Int} (h : Ln.check N bs = 0) (hp : 0 ≤ p ∧ p < N) (hv : v < -1000000 ∨ 1000000 < v) : Ln.thF N bs p v = ([], false, 1) := by
  have h1 : Ln.cpF N bs [p] = 0 := by
    rw [Ln.cpF, if_pos h, if_pos]
    simp [Ln.isPoint]
    omega
  rw [Ln.thF, if_pos h1, if_neg]
  simp [Ln.within]
  omega

/-- The tie's cells, new in memory. -/
theorem tie_rd (w : World) (p v : Int) : Rd (w.alloc (.cells #[.int .i64 0, .int .i64 p, .int .i64 v, .int .i64 0, .int .i64 p, .int .i64 0, .int .i64 (-v), .int .i64 0] 63)) (w.heap.size + 1) 4 (some ⟨w.heap.size, 0, none⟩) 2 [.int .i64 0, .int .i64 p, .int .i64 v, .int .i64 0, .int .i64 p, .int .i64 0, .int .i64 (-v), .int .i64 0] := by
  refine ⟨rfl, fun _ => ⟨w.heap.size, 0, rfl, Nat.lt_succ_self _, fun j hj => ?_⟩⟩
  rw [Nat.zero_add, (Bk.new w _ _).cell j]
  simp
theorem tie_one (p v : Int) : ∀ u ∈ ([.int .i64 0, .int .i64 p, .int .i64 v, .int .i64 0, .int .i64 p, .int .i64 0, .int .i64 (-v), .int .i64 0] : List Value), u.oneCell' = true := by
  intro u hu
  simp only [List.mem_cons, List.not_mem_nil, or_false] at hu
  rcases hu with rfl | rfl | rfl | rfl | rfl | rfl | rfl | rfl <;> rfl

/-- Through behind its checks: the system with the tie, and what comes of it. -/
structure ThC (N : Int) (bs : List Ln.Bd) (p v : Int) (cs : List Ln.Bd) : Prop where
  ok : Ln.Ok N.toNat cs
  live : ∀ b ∈ cs, b.gone = false
  eq : Ln.thF N bs p v = if Ln.consF cs N.toNat = true then (Ln.valF cs N.toNat, true, 0) else ([], false, 0)
theorem thC_zero {N : Int} {bs : List Ln.Bd} (h : Ln.check N bs = 0) (hc : Ln.Lv bs) : ThC N bs 0 0 bs := by
  obtain ⟨hok, hN⟩ := Ln.ok_of_check h
  have hpos := hok.pos
  have h1 : Ln.cpF N bs [0] = 0 := by
    rw [Ln.cpF, if_pos h, if_pos]
    simp [Ln.isPoint]
    omega
  refine ⟨hok, hc.live, ?_⟩
  rw [Ln.thF, if_pos h1, if_pos (by decide), Ln.consF_tie, Ln.valF_tie]
theorem thC_tie {N : Int} {bs : List Ln.Bd} {p v : Int} (h : Ln.check N bs = 0) (hc : Ln.Lv bs) (hp : 0 ≤ p ∧ p < N) (hv : -1000000 ≤ v ∧ v ≤ 1000000) : ThC N bs p v (bs ++ Ln.tieL p v) := by
  have h1 : Ln.cpF N bs [p] = 0 := by
    rw [Ln.cpF, if_pos h, if_pos]
    simp [Ln.isPoint]
    omega
  have h2 : Ln.within v 1000000 = true := by simp [Ln.within]; omega
  exact ⟨Ln.tie_ok h1 h2, (Ln.tie_lv hc (Ln.check_len h).1 p v).live, by rw [Ln.thF, if_pos h1, if_pos h2]⟩
theorem thF_neg {N : Int} {bs : List Ln.Bd} {v : Int} (h : Ln.check N bs = 0) (h0 : v ≠ 0) (hv : -1000000 ≤ v ∧ v ≤ 1000000) : Ln.thF N bs 0 v = ([], false, 0) := by
  obtain ⟨hok, hN⟩ := Ln.ok_of_check h
  have hpos := hok.pos
  have h1 : Ln.cpF N bs [0] = 0 := by
    rw [Ln.cpF, if_pos h, if_pos]
    simp [Ln.isPoint]
    omega
  have h2 : Ln.within v 1000000 = true := by simp [Ln.within]; omega
  rw [Ln.thF, if_pos h1, if_pos h2, if_neg (by rw [Ln.tie_neg h1 h2 h0]; simp)]

set_option maxRecDepth 100000 in
set_option maxHeartbeats 4000000 in
theorem rThrough_any (N : Int) (A : Option Addr) (c : Nat) (bs : List Ln.Bd) (p v : Int) (w : World) (hR : Rd w w.heap.size 4 A bs.length (bcells bs)) (hc : Ln.Lv bs) (h14 : Ln.check N bs = 0 → N ≤ 14) :
    Calls Try.prog 39 #[.agg #[.int .i64 N, .slice A bs.length c], .int .i64 p, .int .i64 v] w fun e w' => ∃ A' c', e = .returned (.tuple #[.slice A' (Ln.thF N bs p v).1.length c', .bool (Ln.thF N bs p v).2.1, .int .i64 (Ln.thF N bs p v).2.2]) ∧ Rd w' w'.heap.size 1 A' (Ln.thF N bs p v).1.length (ints (Ln.thF N bs p v).1) ∧ Below w.heap.size w w' := by
  obtain ⟨i0, hi0, hz0, hz1, hz2⟩ := info_parts info69'
  have hB0 : Below w.heap.size w (w.alloc (.cells #[.int .i64 N, .slice A bs.length c] 24)) := (Below.refl _ _).alloc (Nat.le_refl _) _
  have hR1 := (hR.below hB0 (Nat.le_refl _)).more hB0.size
  have k0 := Bk.new w 24 #[.int .i64 N, .slice A bs.length c]
  have hcheck := rcheck_any N A c bs _ hR1 hc.len
  by_cases hk : Ln.check N bs = 0
  case neg =>
    rw [show Ln.thF N bs p v = ([], false, Ln.check N bs) from by rw [Ln.thF, if_neg (by rw [Ln.cpF_bad hk]; exact hk), Ln.cpF_bad hk]]
    obtain ⟨s, hs⟩ : ∃ s, Ln.check N bs = s := ⟨_, rfl⟩
    rw [hs] at hcheck hk ⊢
    have hne : (s != 0) = true := by simp [hk]
    have HCK := Lib.hid hcheck
    clear hcheck hk hs h14
    go_enter Try.func39, Try.ntmps39
    go_wp2_with fail
    refine HCK.out.mono ?_
    rintro e w1 ⟨rfl, hb1⟩
    go_wp2_with fail
    go_ret3
    exact ⟨none, 0, rfl, Rd.nil _ _ _ _, hB0.trans (hb1.mono hB0.size)⟩
  have hN14 := h14 hk
  rw [hk] at hcheck
  have HCK := Lib.hid hcheck
  clear hcheck
  have hlen := (Ln.check_len hk).1
  by_cases hp0 : p < 0
  · rw [thF_far hk (.inl hp0)]
    have HK := Lib.hid hk
    clear hk h14
    go_enter Try.func39, Try.ntmps39
    go_wp2_with fail
    refine HCK.out.mono ?_
    rintro e w1 ⟨rfl, hb1⟩
    have k1 := k0.below hb1 (by simp)
    have hB1 := hB0.trans (hb1.mono hB0.size)
    have hR2 := (hR.below hB1 (Nat.le_refl _)).more hB1.size
    have c0 := (k1.cell 0).trans rfl
    have c1 := (k1.cell 1).trans rfl
    have cl := k1.lt
    go_wp2_with fail
    go_ret3
    exact ⟨none, 0, rfl, Rd.nil _ _ _ _, hB1⟩
  by_cases hpN : N ≤ p
  · rw [thF_far hk (.inr hpN)]
    have HK := Lib.hid hk
    clear hk h14
    go_enter Try.func39, Try.ntmps39
    go_wp2_with fail
    refine HCK.out.mono ?_
    rintro e w1 ⟨rfl, hb1⟩
    have k1 := k0.below hb1 (by simp)
    have hB1 := hB0.trans (hb1.mono hB0.size)
    have hR2 := (hR.below hB1 (Nat.le_refl _)).more hB1.size
    have c0 := (k1.cell 0).trans rfl
    have c1 := (k1.cell 1).trans rfl
    have cl := k1.lt
    go_wp2_with fail
    go_ret3
    exact ⟨none, 0, rfl, Rd.nil _ _ _ _, hB1⟩
  by_cases hv0 : v < -1000000
  · rw [thF_v hk (by omega) (.inl hv0)]
    have HK := Lib.hid hk
    clear hk h14
    go_enter Try.func39, Try.ntmps39
    go_wp2_with fail
    refine HCK.out.mono ?_
    rintro e w1 ⟨rfl, hb1⟩
    have k1 := k0.below hb1 (by simp)
    have hB1 := hB0.trans (hb1.mono hB0.size)
    have hR2 := (hR.below hB1 (Nat.le_refl _)).more hB1.size
    have c0 := (k1.cell 0).trans rfl
    have c1 := (k1.cell 1).trans rfl
    have cl := k1.lt
    go_wp2_with fail
    go_ret3
    exact ⟨none, 0, rfl, Rd.nil _ _ _ _, hB1⟩
  by_cases hv1 : 1000000 < v
  · rw [thF_v hk (by omega) (.inr hv1)]
    have HK := Lib.hid hk
    clear hk h14
    go_enter Try.func39, Try.ntmps39
    go_wp2_with fail
    refine HCK.out.mono ?_
    rintro e w1 ⟨rfl, hb1⟩
    have k1 := k0.below hb1 (by simp)
    have hB1 := hB0.trans (hb1.mono hB0.size)
    have hR2 := (hR.below hB1 (Nat.le_refl _)).more hB1.size
    have c0 := (k1.cell 0).trans rfl
    have c1 := (k1.cell 1).trans rfl
    have cl := k1.lt
    go_wp2_with fail
    go_ret3
    exact ⟨none, 0, rfl, Rd.nil _ _ _ _, hB1⟩
  by_cases hpz : p = 0
  · subst hpz
    by_cases hvz : v = 0
    · subst hvz
      have T := thC_zero hk hc
      obtain ⟨tok, tlv, teq⟩ := T
      have hN := (Ln.ok_of_check hk).2
      obtain ⟨M, rfl⟩ : ∃ M : Nat, N = M := ⟨N.toNat, by omega⟩
      rw [Int.toNat_natCast] at tok teq
      have hcon := fun A c w h => rconsistent_any tok tlv A c w h
      rw [Ln.consR_eq tok tlv] at hcon
      have hrun : Ln.consF bs M = true → ∀ A c w, _ → _ := fun hco A c w h => rsome_run tok tlv ((Ln.cons_iff tok).1 hco) (by omega) A c w h
      have hvl := Ln.valF_length bs M
      obtain ⟨val, hval⟩ : ∃ val, Ln.valF bs M = val := ⟨_, rfl⟩
      rw [hval] at teq hvl
      simp only [hval] at hrun
      obtain ⟨co, hco⟩ : ∃ co, Ln.consF bs M = co := ⟨_, rfl⟩
      rw [hco] at hcon teq hrun
      have HCON := Lib.hid hcon
      have HRUN := Lib.hid hrun
      have HVL := Lib.hid hvl
      have HTEQ := Lib.hid teq
      have HN14 := Lib.hid hN14
      clear hk h14 hcon hrun hvl teq hco hval tok tlv hN
      go_enter Try.func39, Try.ntmps39
      go_wp2_with fail
      refine HCK.out.mono ?_
      rintro e w1 ⟨rfl, hb1⟩
      have k1 := k0.below hb1 (by simp)
      have hB1 := hB0.trans (hb1.mono hB0.size)
      have hR2 := (hR.below hB1 (Nat.le_refl _)).more hB1.size
      have c0 := (k1.cell 0).trans rfl
      have c1 := (k1.cell 1).trans rfl
      have cl := k1.lt
      have hB2 := hB1.alloc hB1.size (.cells #[.int .i64 (M : Int), .slice A bs.length c] 24)
      have kT := Bk.new w1 24 #[.int .i64 (M : Int), .slice A bs.length c]
      have hR3 := (hR.below hB2 (Nat.le_refl _)).more hB2.size
      go_wp2_with fail
      refine (HCON.out A c _ hR3).mono ?_
      rintro e w3 ⟨rfl, hb3⟩
      have k3 := kT.below hb3 kT.lt
      have hB3 := hB2.trans (hb3.mono hB2.size)
      have hR4 := (hR.below hB3 (Nat.le_refl _)).more hB3.size
      have d0 := (k3.cell 0).trans rfl
      have d1 := (k3.cell 1).trans rfl
      have dl := k3.lt
      have AA := A
      rcases co with _ | _
      · go_wp2_with fail
        go_ret3
        rw [HTEQ.out, if_neg (by simp)]
        exact ⟨none, 0, rfl, Rd.nil _ _ _ _, hB3⟩
      · go_wp2_with fail
        refine (HRUN.out (by simp) A c _ hR4).mono ?_
        rintro e w4 ⟨g, rfl, hg, kV, hb4⟩
        go_wp2_with fail
        go_ret3
        have hvl := HVL.out
        have hte := HTEQ.out
        rw [if_pos (by simp)] at hte
        rw [hte]
        exact ⟨some ⟨g, 0, none⟩, M, by rw [hvl]; rfl, bk_rd kV (by omega), hB3.trans (hb4.mono hB3.size)⟩
    · have hvb : (v != 0) = true := by simp [hvz]
      rw [thF_neg hk hvz (by omega)]
      have HK := Lib.hid hk
      clear hk h14 hvz
      go_enter Try.func39, Try.ntmps39
      go_wp2_with fail
      refine HCK.out.mono ?_
      rintro e w1 ⟨rfl, hb1⟩
      have k1 := k0.below hb1 (by simp)
      have hB1 := hB0.trans (hb1.mono hB0.size)
      have hR2 := (hR.below hB1 (Nat.le_refl _)).more hB1.size
      have c0 := (k1.cell 0).trans rfl
      have c1 := (k1.cell 1).trans rfl
      have cl := k1.lt
      go_wp2_with fail
      go_ret3
      exact ⟨none, 0, rfl, Rd.nil _ _ _ _, hB1⟩
  · have hpb : (p == 0) = false := by simp [hpz]
    have T := thC_tie hk hc (p := p) (v := v) (by omega) (by omega)
    obtain ⟨tok, tlv, teq⟩ := T
    have hN := (Ln.ok_of_check hk).2
    obtain ⟨M, rfl⟩ : ∃ M : Nat, N = M := ⟨N.toNat, by omega⟩
    rw [Int.toNat_natCast] at tok teq
    have hcl : (bs ++ Ln.tieL p v).length = bs.length + 2 := by simp [Ln.tieL]
    have hcc : bcells (bs ++ Ln.tieL p v) = bcells bs ++ [.int .i64 0, .int .i64 p, .int .i64 v, .int .i64 0, .int .i64 p, .int .i64 0, .int .i64 (-v), .int .i64 0] := by rw [bcells_append]; rfl
    obtain ⟨cs, hcs⟩ : ∃ cs, bs ++ Ln.tieL p v = cs := ⟨_, rfl⟩
    rw [hcs] at tok tlv teq hcl hcc
    have HCL := Lib.hid hcl
    have HCC := Lib.hid hcc
    clear hcl hcc
    have hcon := fun A c w h => rconsistent_any tok tlv A c w h
    rw [Ln.consR_eq tok tlv] at hcon
    have hrun : Ln.consF cs M = true → ∀ A c w, _ → _ := fun hco A c w h => rsome_run tok tlv ((Ln.cons_iff tok).1 hco) (by omega) A c w h
    have hvl := Ln.valF_length cs M
    obtain ⟨val, hval⟩ : ∃ val, Ln.valF cs M = val := ⟨_, rfl⟩
    rw [hval] at teq hvl
    simp only [hval] at hrun
    obtain ⟨co, hco⟩ : ∃ co, Ln.consF cs M = co := ⟨_, rfl⟩
    rw [hco] at hcon teq hrun
    have HCON := Lib.hid hcon
    have HRUN := Lib.hid hrun
    have HVL := Lib.hid hvl
    have HTEQ := Lib.hid teq
    have HN14 := Lib.hid hN14
    clear hk h14 hcon hrun hvl teq hco hval tok tlv hcs hN
    go_enter Try.func39, Try.ntmps39
    go_wp2_with fail
    refine HCK.out.mono ?_
    rintro e w1 ⟨rfl, hb1⟩
    have k1 := k0.below hb1 (by simp)
    have hB1 := hB0.trans (hb1.mono hB0.size)
    have hR2 := (hR.below hB1 (Nat.le_refl _)).more hB1.size
    have c0 := (k1.cell 0).trans rfl
    have c1 := (k1.cell 1).trans rfl
    have cl := k1.lt
    have hB2 := hB1.alloc hB1.size (.cells #[.int .i64 (M : Int), .slice A bs.length c] 24)
    have kT := Bk.new w1 24 #[.int .i64 (M : Int), .slice A bs.length c]
    have kS := k1.alloc (.cells #[.int .i64 (M : Int), .slice A bs.length c] 24)
    have hR3 := (hR.below hB2 (Nat.le_refl _)).more hB2.size
    have hneg : IntKind.i64.wrap (-v) = -v := IntWalk.i64_in _ (by omega)
    go_upto_region 10 with fail
    obtain ⟨W, hW⟩ : ∃ W, w1.alloc (.cells #[.int .i64 (M : Int), .slice A bs.length c] 24) = W := ⟨_, rfl⟩
    obtain ⟨tb, htb⟩ : ∃ tb, w1.heap.size = tb := ⟨_, rfl⟩
    rw [hW] at hB2 kT kS hR3 ⊢
    rw [htb] at kT cl ⊢
    clear hW htb c0 c1
    have s1 := (kS.cell 1).trans rfl
    have sl := kS.lt
    have tl := kT.lt
    have hown0 : (W.alloc (.cells #[] 63)).ownsRow W.heap.size 63 4 (.slice (some ⟨W.heap.size, 0, none⟩) 0 0) 0 [] := World.ownsRow_lit W #[] 0 (Nat.le_refl _) (by unfold maxLen; omega) rfl
    have hbW : Below W.heap.size W (W.alloc (.cells #[] 63)) := (Below.refl _ _).alloc (Nat.le_refl _) _
    have hR4 := (hR3.below hbW (Nat.le_refl _)).more hbW.size
    go_wp2_with (first
      | (at_builtin; refine wpList_append_rd rfl (.tmp 42) (.tmp 44) 22 rfl W.heap.size 63 i0 _ 4 32 Try.underlying22 hi0 hz0 hz1 hz2 rfl (by omega) (.slice (some ⟨W.heap.size, 0, none⟩) 0 0) 0 [] rfl hown0 A bs.length c _ (bcells bs) rfl hR4 (bcells_one bs) (by unfold maxLen; omega) (by omega) (by simp) ?_; intro v1 w5 hown1 hg1 hat1)
      | (at_builtin; refine wpList_append_rd rfl (.tmp 45) (.tmp 53) 22 rfl W.heap.size 63 i0 _ 4 32 Try.underlying22 hi0 hz0 hz1 hz2 rfl (by omega) v1 (0 + bs.length) ([] ++ bcells bs) rfl (hown1.alloc (.cells #[.int .i64 0, .int .i64 p, .int .i64 v, .int .i64 0, .int .i64 p, .int .i64 0, .int .i64 (-v), .int .i64 0] 63)) (some ⟨w5.heap.size, 0, none⟩) 2 2 (w5.heap.size + 1) [.int .i64 0, .int .i64 p, .int .i64 v, .int .i64 0, .int .i64 p, .int .i64 0, .int .i64 (-v), .int .i64 0] rfl (tie_rd _ _ _) (tie_one _ _) (by unfold maxLen; omega) (by omega) (by have := (hbW.grown hg1 (by simp) (fun j e => (hown0.lt j e).1)).size; simp; omega) ?_; intro v2 w6 hown2 hg2 hat2; have hb5 := hbW.grown hg1 (by simp) (fun j e => (hown0.lt j e).1); have hb6 := (hb5.alloc hb5.size (.cells #[.int .i64 0, .int .i64 p, .int .i64 v, .int .i64 0, .int .i64 p, .int .i64 0, .int .i64 (-v), .int .i64 0] 63)).grown hg2 (by have := hb5.size; simp; omega) (fun j e => (hown1.lt j e).1); have kT6 := kT.below hb6 tl; have t0 := (kT6.cell 0).trans rfl; have t1 := (kT6.cell 1).trans rfl; have tf := kT6.frozen 1; have hown3 : w6.ownsRow W.heap.size 63 4 v2 cs.length (bcells cs) := (by rw [HCL.out, HCC.out]; simpa using hown2); obtain ⟨A2, c2, rfl, hrd6⟩ := own_read hown3; have kT7 := kT6.set 1 (.slice A2 cs.length c2); have hrd7 := (own_read (hown3.kept (grown_setCell w6 ⟨tb, 1, none⟩ (.slice A2 cs.length c2)) (own_offN hown3 tl))); have hb7 := (hB2.trans (hb6.mono hB2.size)).setCell (p := ⟨tb, 1, none⟩) (by have := hB1.size; simp; omega) (.slice A2 cs.length c2); have q0 := (kT7.cell 0).trans rfl; have q1 := (kT7.cell 1).trans rfl; have ql := kT7.lt; clear hown1 hown2 hown3 hrd6 hb5 hb6 hg1 hg2 hat1 hat2))
    obtain ⟨A3, c3, hA3, hrd7⟩ := hrd7
    obtain ⟨rfl, rfl⟩ : A2 = A3 ∧ c2 = c3 := by simpa using hA3
    obtain ⟨W7, hW7⟩ : ∃ W7, w6.setCell ⟨tb, 1, none⟩ (.slice A2 cs.length c2) = W7 := ⟨_, rfl⟩
    rw [hW7] at hrd7 hb7 kT7 q0 q1 ql ⊢
    clear hW7
    refine (HCON.out A2 c2 _ hrd7).mono ?_
    rintro e w8 ⟨rfl, hb8⟩
    have k8 := kT7.below hb8 ql
    have hB8 := hb7.trans (hb8.mono hb7.size)
    have hrd8 := (hrd7.below hb8 (Nat.le_refl _)).more hb8.size
    have d0 := (k8.cell 0).trans rfl
    have d1 := (k8.cell 1).trans rfl
    have dl := k8.lt
    rcases co with _ | _
    · go_wp2_with fail
      go_ret3
      rw [HTEQ.out, if_neg (by simp)]
      exact ⟨none, 0, rfl, Rd.nil _ _ _ _, hB8⟩
    · go_wp2_with fail
      refine (HRUN.out (by simp) A2 c2 _ hrd8).mono ?_
      rintro e w9 ⟨g, rfl, hg, kV, hb9⟩
      go_wp2_with fail
      go_ret3
      have hvl := HVL.out
      have hte := HTEQ.out
      rw [if_pos (by simp)] at hte
      rw [hte]
      exact ⟨some ⟨g, 0, none⟩, M, by rw [hvl]; rfl, bk_rd kV (by omega), hB8.trans (hb9.mono hB8.size)⟩

end Go.Proofs.Ytppfpdhgckghdaa
