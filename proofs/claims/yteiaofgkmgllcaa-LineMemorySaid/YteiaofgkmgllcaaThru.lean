/-
  Through.
-/
import Derived.Test.YteiaofgkmgllcaaConcat
import Derived.Test.YteiaofgkmgllcaaPoss
import Derived.Test.YteiaofgkmgllcaaSome
import Derived.Test.YteiaofgkmgllcaaMath
set_option linter.unusedVariables false
set_option linter.unusedSimpArgs false
namespace Go.Proofs.Yteiaofgkmgllcaa
open Go.RowKit Go.Shelf

theorem cpF_len {N : Int} {bs : List Ln.Bd} {ps : List Int} (h : Ln.cpF N bs ps = 0) : bs.length ≤ 2000 := by
  have h0 := Ln.cpF_zero h
  unfold Ln.check at h0
  split at h0
  · cases h0
  · omega

section
variable (N : Int) (A : Option Addr) (c : Nat) (bs : List Ln.Bd) (p v : Int) (w : World)

set_option maxRecDepth 100000 in
set_option maxHeartbeats 1000000 in
theorem through_new (hR : Rd w w.heap.size 4 A bs.length (bcells bs)) (hc : Ln.Lv bs) :
    Calls Try.prog 22 #[.agg #[.int .i64 N, .slice A bs.length c], .int .i64 p, .int .i64 v] w fun e w' => ∃ A' c', e = .returned (.tuple #[.slice A' (Ln.thF N bs p v).1.length c', .bool (Ln.thF N bs p v).2.1, .int .i64 (Ln.thF N bs p v).2.2]) ∧ Rd w' w'.heap.size 1 A' (Ln.thF N bs p v).1.length (ints (Ln.thF N bs p v).1) ∧ (∀ a, A' = some a → w.heap.size ≤ a.block) ∧ Below w.heap.size w w' := by
  have hB0 : Below w.heap.size w ((w.alloc (.cells #[.int .i64 N, .slice A bs.length c] 24)).alloc (.cells #[.int .i64 p] 3)) := ((Below.refl _ _).alloc (Nat.le_refl _) _).alloc (by simp) _
  have hR1 := (hR.below hB0 (Nat.le_refl _)).more hB0.size
  have kS := (Bk.new w 24 #[.int .i64 N, .slice A bs.length c]).alloc (.cells #[.int .i64 p] 3)
  have hP1 : Rd ((w.alloc (.cells #[.int .i64 N, .slice A bs.length c] 24)).alloc (.cells #[.int .i64 p] 3)) ((w.alloc (.cells #[.int .i64 N, .slice A bs.length c] 24)).alloc (.cells #[.int .i64 p] 3)).heap.size 1 (some ⟨w.heap.size + 1, 0, none⟩) [p].length (ints [p]) := by
    have h := Bk.new (w.alloc (.cells #[.int .i64 N, .slice A bs.length c] 24)) 3 #[.int .i64 p]
    rw [World.size_alloc] at h
    exact bk_rd (d := [p]) (by simpa [av] using h) rfl
  by_cases hcp : Ln.cpF N bs [p] = 0
  · by_cases hv : Ln.within v 1000000 = true
    · have hok := Ln.tie_ok hcp hv
      have hlen := cpF_len hcp
      have hlv := Ln.tie_lv hc hlen p v
      have hN := (Ln.ok_of_check (Ln.cpF_zero hcp)).2
      have hvr : -1000000 ≤ v ∧ v ≤ 1000000 := by simpa [Ln.within] using hv
      rw [show Ln.thF N bs p v = if Ln.consF (bs ++ Ln.tieL p v) N.toNat = true then (Ln.valF (bs ++ Ln.tieL p v) N.toNat, true, 0) else ([], false, 0) from by rw [Ln.thF, if_pos hcp, if_pos hv]]
      obtain ⟨M, rfl⟩ : ∃ M : Nat, N = M := ⟨N.toNat, by omega⟩
      rw [Int.toNat_natCast] at hok ⊢
      obtain ⟨cs, hcs⟩ : ∃ cs, bs ++ Ln.tieL p v = cs := ⟨_, rfl⟩
      rw [hcs] at hok hlv ⊢
      obtain ⟨r, hr⟩ : ∃ r : List Int × Bool × Int, (if Ln.consF cs M = true then (Ln.valF cs M, true, 0) else ([], false, 0)) = r := ⟨_, rfl⟩
      rw [hr]
      have HCP := Lib.hid hcp
      have HV := Lib.hid hv
      have HR := Lib.hid hr
      clear hcp hv hN hr
      go_enter Try.func22, Try.ntmps22
      go_upto_region 7 with (first
        | (go_at_call 53; refine (checkPoints_any M A c bs (some ⟨w.heap.size + 1, 0, none⟩) 1 [p] _ hR1 hc.len hP1 (by simp)).mono ?_; rw [HCP.out]; rintro e w1 ⟨rfl, hb1⟩)
        | (go_at_call 54; refine (within_any _ _ (by omega) (by omega) _).mono ?_; rw [HV.out]; rintro e w2 ⟨rfl, rfl⟩))
      have hB1 := hB0.trans (hb1.mono hB0.size)
      have kS1 := (kS.below hb1 (by simp; omega)).alloc (.cells #[.int .i64 0, .int .i64 p, .int .i64 v, .int .i64 0, .int .i64 p, .int .i64 0, .int .i64 (-v), .int .i64 0] 50)
      have hB7 := hB1.alloc hB1.size (.cells #[.int .i64 0, .int .i64 p, .int .i64 v, .int .i64 0, .int .i64 p, .int .i64 0, .int .i64 (-v), .int .i64 0] 50)
      have kT := Bk.new w1 50 #[.int .i64 0, .int .i64 p, .int .i64 v, .int .i64 0, .int .i64 p, .int .i64 0, .int .i64 (-v), .int .i64 0]
      obtain ⟨tb, htb⟩ : ∃ tb, w1.heap.size = tb := ⟨_, rfl⟩
      obtain ⟨W7, hW7⟩ : ∃ W7, w1.alloc (.cells #[.int .i64 0, .int .i64 p, .int .i64 v, .int .i64 0, .int .i64 p, .int .i64 0, .int .i64 (-v), .int .i64 0] 50) = W7 := ⟨_, rfl⟩
      rw [hW7] at kS1 hB7 kT ⊢
      rw [htb] at kT ⊢
      have hR7 : Rd W7 W7.heap.size 4 A bs.length (bcells bs) := (hR.below hB7 (Nat.le_refl _)).more hB7.size
      have hT7 : Rd W7 W7.heap.size 4 (some ⟨tb, 0, none⟩) (Ln.tieL p v).length (bcells (Ln.tieL p v)) := by
        refine ⟨rfl, fun _ => ⟨tb, 0, rfl, kT.lt, fun j hj => ?_⟩⟩
        rw [Nat.zero_add, kT.cell j, show bcells (Ln.tieL p v) = [.int .i64 0, .int .i64 p, .int .i64 v, .int .i64 0, .int .i64 p, .int .i64 0, .int .i64 (-v), .int .i64 0] from rfl]
        simp
      have s0 := kS1.cell 0
      have s1 := kS1.cell 1
      simp only [List.getElem?_toArray, List.getElem?_cons_zero, List.getElem?_cons_succ] at s0 s1
      have hS7 := kS1.lt
      have hSB : ∀ W, Below W7.heap.size W7 W → W.cell? ⟨w.heap.size, 0, none⟩ = some (.int .i64 M) ∧ W.cell? ⟨w.heap.size, 1, none⟩ = some (.slice A bs.length c) := fun W hb =>
        ⟨(hb.cell (p := ⟨w.heap.size, 0, none⟩) (by simp; omega)).trans s0, (hb.cell (p := ⟨w.heap.size, 1, none⟩) (by simp; omega)).trans s1⟩
      have hcc : ∀ b W, Bk W b 22 #[.slice A bs.length c, .slice (some ⟨tb, 0, none⟩) 2 2] → Below W7.heap.size W7 W →
          Calls Try.prog 51 #[.slice (some ⟨b, 0, none⟩) 2 2] W fun e w' => ∃ A' c', e = .returned (.slice A' cs.length c') ∧ Rd w' w'.heap.size 4 A' cs.length (bcells cs) ∧ (∀ a, A' = some a → W.heap.size ≤ a.block) ∧ Below W.heap.size W w' := fun b W hb hB =>
        by
        have h := concat_any bs (Ln.tieL p v) A (some ⟨tb, 0, none⟩) c 2 b W hb ((hR7.below hB (Nat.le_refl _)).more hB.size) ((hT7.below hB (Nat.le_refl _)).more hB.size) (by simp [Ln.tieL]; omega)
        rw [hcs] at h
        exact h
      have HSB := Lib.hid hSB
      have HCC := Lib.hid hcc
      clear hcs hSB hcc htb hW7 kT hT7 hR7 hb1 hR1 kS hP1 hB0 hB1
      go_cut [11] (fun s11 wx => ∃ nb fr A' c', s11 = .pointer (some ⟨nb, 0, none⟩) ∧ IsNet wx wx.heap.size nb M cs A' c' fr ∧ Below W7.heap.size W7 wx)
      case first =>
        go_region_held3 (fun w' => w'.cell? ⟨w.heap.size, 0, none⟩ = some (.int .i64 M) ∧ w'.cell? ⟨w.heap.size, 1, none⟩ = some (.slice A bs.length c))
          (first
            | go_keep
            | ((try dsimp only); first | (with_reducible exact HSB.out _ hbD) | (with_reducible exact HSB.out _ hbC) | (with_reducible exact HSB.out _ ((Below.refl _ W7).alloc (Nat.le_refl _) _).drew)))
          (first
            | (go_at_call 51; refine (HCC.out W7.heap.size (W7.alloc (.cells #[.slice A bs.length c, .slice (some ⟨tb, 0, none⟩) 2 2] 22)).drew (Bk.new W7 _ _) (((Below.refl _ W7).alloc (Nat.le_refl _) _).drew)).mono ?_; rintro e w2 ⟨A', c', rfl, hrd2, _, hb2⟩; have hbC : Below W7.heap.size W7 w2 := ((((Below.refl _ W7).alloc (Nat.le_refl _) _).drew).trans (hb2.mono (by first | exact Nat.le_refl _ | omega | (simp; done) | (simp; omega)))))
            | (go_at_call 34; refine (netOf_any M A' c' cs hok hlv w2 hrd2).mono ?_; rintro e w3 ⟨nb, fr, rfl, hnt, hb3⟩; have hbD : Below W7.heap.size W7 w3 := hbC.trans (hb3.mono hbC.size)))
        all_goals
          go_wp2_with fail
          go_meet
          exact ⟨nb, fr, A', c', rfl, hnt, hbD⟩
      case rest =>
        obtain ⟨nb, fr, A', c', rfl, hnt, hbx⟩ := hcut
        have hBx := hB7.trans (hbx.mono hB7.size)
        rcases hco : Ln.consF cs M with _ | _
        · go_wp2_with (first
            | (go_at_call 35; refine (consistent_any hok _ nb A' c' fr _ hnt (Nat.le_refl _)).mono ?_; rw [hco]; rintro e w3 ⟨rfl, hb3⟩))
          go_ret3
          have hr := HR.out
          rw [hco, if_neg (by simp)] at hr
          subst hr
          refine ⟨none, 0, rfl, Rd.nil _ _ _ _, (fun a e => by cases e), hBx.trans (hb3.mono hBx.size)⟩
        · go_wp2_with (first
            | (go_at_call 35; refine (consistent_any hok _ nb A' c' fr _ hnt (Nat.le_refl _)).mono ?_; rw [hco]; rintro e w3 ⟨rfl, hb3⟩; have hn3 := hnt.below hb3 (Nat.le_refl _))
            | (go_at_call 52; refine (values_any hok _ nb A' c' fr _ hn3 hb3.size).mono ?_; rintro e w4 ⟨g, rfl, hg, kV, hb4⟩))
          go_ret3
          have hvl := Ln.valF_length cs M
          have hr := HR.out
          rw [hco, if_pos rfl] at hr
          subst hr
          refine ⟨some ⟨g, 0, none⟩, M, ?_, ?_, (fun a e => by cases e; have h1 := hBx.size; have h2 := hb3.size; dsimp only at hg ⊢; omega), (hBx.trans (hb3.mono hBx.size)).trans (hb4.mono (Nat.le_trans hBx.size hb3.size))⟩
          · rw [hvl]
            rfl
          · exact bk_rd kV (by omega)
    · have hv' : Ln.within v 1000000 = false := by simpa using hv
      rw [show Ln.thF N bs p v = ([], false, 1) from by rw [Ln.thF, if_pos hcp, if_neg hv]]
      have HCP := Lib.hid hcp
      have HV := Lib.hid hv'
      clear hcp hv hv'
      go_enter Try.func22, Try.ntmps22
      go_wp2_with (first
        | (go_at_call 53; refine (checkPoints_any N A c bs (some ⟨w.heap.size + 1, 0, none⟩) 1 [p] _ hR1 hc.len hP1 (by simp)).mono ?_; rw [HCP.out]; rintro e w1 ⟨rfl, hb1⟩)
        | (go_at_call 54; refine (within_any _ _ (by omega) (by omega) _).mono ?_; rw [HV.out]; rintro e w2 ⟨rfl, rfl⟩))
      go_ret3
      exact ⟨none, 0, rfl, Rd.nil _ _ _ _, (fun a e => by cases e), hB0.trans (hb1.mono hB0.size)⟩
  · rw [show Ln.thF N bs p v = ([], false, Ln.cpF N bs [p]) from by rw [Ln.thF, if_neg hcp]]
    have hne : (Ln.cpF N bs [p] != 0) = true := by simp [hcp]
    clear hcp
    go_enter Try.func22, Try.ntmps22
    go_wp2_with (go_at_call 53; refine (checkPoints_any N A c bs (some ⟨w.heap.size + 1, 0, none⟩) 1 [p] _ hR1 hc.len hP1 (by simp)).mono ?_; rintro e w1 ⟨rfl, hb1⟩)
    go_ret3
    exact ⟨none, 0, rfl, Rd.nil _ _ _ _, (fun a e => by cases e), hB0.trans (hb1.mono hB0.size)⟩
theorem through_any (hR : Rd w w.heap.size 4 A bs.length (bcells bs)) (hc : Ln.Lv bs) :
    Calls Try.prog 22 #[.agg #[.int .i64 N, .slice A bs.length c], .int .i64 p, .int .i64 v] w fun e w' => ∃ A' c', e = .returned (.tuple #[.slice A' (Ln.thF N bs p v).1.length c', .bool (Ln.thF N bs p v).2.1, .int .i64 (Ln.thF N bs p v).2.2]) ∧ Rd w' w'.heap.size 1 A' (Ln.thF N bs p v).1.length (ints (Ln.thF N bs p v).1) ∧ Below w.heap.size w w' :=
  (through_new N A c bs p v w hR hc).mono fun _ _ ⟨A', c', e, h, _, hb⟩ => ⟨A', c', e, h, hb⟩
end

end Go.Proofs.Yteiaofgkmgllcaa
