/-
  The reference's CheckPath; LinePaths: the law's walk.
-/
import Derived.Test.YtppfpdhgckghdaaAlive
import Derived.Test.YtppfpdhgckghdaaPath
import Derived.Test.YtppfpdhgckghdaaCirc
import Derived.Test.YtppfpdhgckghdaaStpO
import Derived.Test.YtppfpdhgckghdaaStpP
set_option linter.unusedVariables false
set_option linter.unusedSimpArgs false
namespace Go.Proofs.Ytppfpdhgckghdaa
open Go.RowKit Go.Shelf

set_option maxRecDepth 100000 in
set_option maxHeartbeats 2000000 in
theorem rcheckPath_any (N : Int) (A : Option Addr) (c : Nat) (bs : List Ln.Bd) (A2 : Option Addr) (c2 : Nat) (l : List Int) (a b most : Int) (w : World) (hR : Rd w w.heap.size 4 A bs.length (bcells bs)) (hc : Ln.Lv bs) (hL : Rd w w.heap.size 1 A2 l.length (ints l)) (hll : l.length ≤ 1000000) :
    Calls Try.prog 31 #[.agg #[.int .i64 N, .slice A bs.length c], .slice A2 l.length c2, .int .i64 a, .int .i64 b, .int .i64 most] w fun e w' => e = .returned (.tuple #[.bool (Ln.chF N bs l a b most).1, .int .i64 (Ln.chF N bs l a b most).2]) ∧ Below w.heap.size w w' := by
  have hB0 : Below w.heap.size w (w.alloc (.cells #[.int .i64 N, .slice A bs.length c] 24)) := (Below.refl _ _).alloc (Nat.le_refl _) _
  have hR1 := (hR.below hB0 (Nat.le_refl _)).more hB0.size
  have kS := Bk.new w 24 #[.int .i64 N, .slice A bs.length c]
  obtain ⟨r, hr⟩ : ∃ r, Ln.chF N bs l a b most = r := ⟨_, rfl⟩
  rw [hr]
  rw [Ln.chF, Ln.cpF] at hr
  have hCK := rcheck_any N A c bs _ hR1 hc.len
  by_cases hs : Ln.check N bs = 0
  · obtain ⟨hok, hNt⟩ := Ln.ok_of_check hs
    rw [if_pos hs] at hr
    have hpt : ∀ x : Int, Ln.isPoint N x = true ↔ 0 ≤ x ∧ x < N := fun x => by simp [Ln.isPoint]
    by_cases hp : (0 ≤ a ∧ a < N) ∧ (0 ≤ b ∧ b < N)
    · obtain ⟨⟨ha0, ha1⟩, hb0, hb1⟩ := hp
      have hall : [a, b].all (Ln.isPoint N) = true := by simp only [List.all_cons, List.all_nil, Bool.and_true, Bool.and_eq_true, hpt]; omega
      rw [hall, if_pos rfl, if_pos rfl] at hr
      clear hall
      rw [hs] at hCK
      rcases Nat.lt_or_ge 2000 l.length with hl | hl
      · rw [if_pos hl] at hr
        have HR := Lib.hid hr
        have HCK := Lib.hid hCK
        clear hr hpt hCK hs hok hNt
        go_enter Try.func31, Try.ntmps31
        go_wp2_with fail
        refine HCK.out.mono ?_
        rintro e w1 ⟨rfl, hb9⟩
        have k1 := kS.below hb9 (by simp)
        have c0 := (k1.cell 0).trans rfl
        have hB1 := hB0.trans (hb9.mono hB0.size)
        go_wp2_with fail
        go_ret2
        have hr := HR.out
        subst hr
        exact ⟨rfl, hB1⟩
      · rw [if_neg (by omega)] at hr
        rw [← flF_of] at hr
        have HFO := Lib.hid fun w hR hL => rpath_any N A c bs A2 c2 l a b w hok hR hL hll
        obtain ⟨⟨t, s, is⟩, ht⟩ : ∃ t, Ln.flF bs l a = t := ⟨_, rfl⟩
        rw [ht] at HFO hr
        dsimp only at HFO hr
        have hr2 : ((is && decide (t = b)) && decide (s ≤ most), (0 : Int)) = r := by rw [← hr, Bool.and_assoc]
        obtain ⟨g, hg⟩ : ∃ g, (is && decide (t = b)) = g := ⟨_, rfl⟩
        rw [hg] at HFO hr2
        have HR := Lib.hid hr2
        have HCK := Lib.hid hCK
        clear ht hr hr2 hg hpt hCK hs hok hNt
        go_enter Try.func31, Try.ntmps31
        go_wp2_with fail
        refine HCK.out.mono ?_
        rintro e w1 ⟨rfl, hb9⟩
        have k1 := kS.below hb9 (by simp)
        have hB1 := hB0.trans (hb9.mono hB0.size)
        have hR2 := (hR.below hB1 (Nat.le_refl _)).more hB1.size
        have hL2 := (hL.below hB1 (Nat.le_refl _)).more hB1.size
        have c0 := (k1.cell 0).trans rfl
        have c1 := (k1.cell 1).trans rfl
        have cl := k1.lt
        rcases g with _ | _
        all_goals
          go_wp2_with fail
          refine (HFO.out _ hR2 hL2).mono ?_
          rintro e w2 ⟨rfl, hb2⟩
          go_wp2_with fail
          go_ret2
          have hr := HR.out
          subst hr
          exact ⟨by simp, hB1.trans (hb2.mono hB1.size)⟩
    · have hall : [a, b].all (Ln.isPoint N) = false := by
        rw [Bool.eq_false_iff]
        intro h
        simp only [List.all_cons, List.all_nil, Bool.and_true, Bool.and_eq_true, hpt] at h
        exact hp h
      rw [hall, if_neg Bool.false_ne_true, if_neg (show ¬ (1 : Int) = 0 by decide)] at hr
      clear hall
      rw [hs] at hCK
      have HR := Lib.hid hr
      have HCK := Lib.hid hCK
      clear hr hpt hCK hs hok hNt
      have hor : a < 0 ∨ (0 ≤ a ∧ N ≤ a) ∨ (0 ≤ a ∧ a < N ∧ b < 0) ∨ (0 ≤ a ∧ a < N ∧ 0 ≤ b ∧ N ≤ b) := by omega
      clear hp
      rcases hor with h1 | ⟨h1, h2⟩ | ⟨h1, h2, h3⟩ | ⟨h1, h2, h3, h4⟩
      all_goals
        go_enter Try.func31, Try.ntmps31
        go_wp2_with fail
        refine HCK.out.mono ?_
        rintro e w1 ⟨rfl, hb9⟩
        have k1 := kS.below hb9 (by simp)
        have c0 := (k1.cell 0).trans rfl
        have hB1 := hB0.trans (hb9.mono hB0.size)
        go_wp2_with fail
        go_ret2
        have hr := HR.out
        subst hr
        exact ⟨rfl, hB1⟩
  · rw [if_neg hs, if_neg hs] at hr
    have hne : (Ln.check N bs != 0) = true := by simp [hs]
    obtain ⟨s, hss⟩ : ∃ s, Ln.check N bs = s := ⟨_, rfl⟩
    rw [hss] at hne hCK hr
    have HR := Lib.hid hr
    have HCK := Lib.hid hCK
    clear hr hCK hs hss
    go_enter Try.func31, Try.ntmps31
    go_wp2_with fail
    refine HCK.out.mono ?_
    rintro e w1 ⟨rfl, hb9⟩
    go_wp2_with fail
    go_ret2
    have hr := HR.out
    subst hr
    exact ⟨rfl, hB0.trans (hb9.mono hB0.size)⟩


namespace Ln
theorem paF_len14 {N : Int} {bs : List Bd} {a b : Int} (h14 : check N bs = 0 → N ≤ 14) : (paF N bs a b).1.length ≤ 14 := by
  by_cases h : soundF N bs [a, b] = 0
  · have := h14 (sound_zero h).2.2
    rw [paF, if_pos h]
    split
    · simp
    · have := fpF_len bs N.toNat a.toNat b.toNat (dF N bs a b) N.toNat
      show (fpF bs N.toNat a.toNat b.toNat (dF N bs a b) N.toNat).1.length ≤ 14
      omega
  · rw [paF, if_neg h]
    simp
end Ln

set_option maxRecDepth 100000 in
set_option maxHeartbeats 4000000 in
theorem linePaths_any (N : Int) (A : Option Addr) (c : Nat) (bs : List Ln.Bd) (a b : Int) (A2 : Option Addr) (c2 : Nat) (l : List Int) (most : Int) (w : World) (hR : Rd w w.heap.size 4 A bs.length (bcells bs)) (hn : bs.length ≤ 9223372036854775807) (hlv : ∀ x ∈ bs, x.gone = false)
    (hL : Rd w w.heap.size 1 A2 l.length (ints l)) :
    Calls Try.prog 6 #[.agg #[.int .i64 N, .slice A bs.length c], .int .i64 a, .int .i64 b, .slice A2 l.length c2, .int .i64 most] w fun e w' => e = .returned (.bool true) ∧ Below w.heap.size w w' := by
  have s0 := Sy.new (w := w) N c hR
  rcases hf : Ln.fewF N bs.length 14 40 with _ | _
  · have HF := Lib.hid hf
    clear hf
    go_enter Try.func6, Try.ntmps6
    go_wp2_with fail
    refine (some_law N A bs.length c hn _).mono ?_
    rw [HF.out]
    rintro e w1 ⟨rfl, hb1⟩
    have s1 := s0.step hb1
    go_wp2_with fail
    refine (alive_any _).mono ?_
    rintro e w2 ⟨rfl, hb2⟩
    have s2 := s1.step hb2
    go_wp2_with fail
    go_ret
    exact ⟨rfl, s2.bl⟩
  · have HF := Lib.hid hf
    have hlen := Ln.fewF_len hf (by omega)
    have hLv : Ln.Lv bs := ⟨by omega, hlv⟩
    have h14 : Ln.check N bs = 0 → N ≤ 14 := fun h => (Ln.fewF_ok hf h).1
    clear hf
    have hcs : (60 < l.length ∧ l.length ≤ 2000) ∨ 2005 < l.length ∨ (l.length ≤ 60) ∨ (2000 < l.length ∧ l.length ≤ 2005) := by omega
    have hll0 : l.length ≤ 60 ∨ (2000 < l.length ∧ l.length ≤ 2005) → l.length ≤ 1000000 := by omega
    rcases hcs with ⟨hl1, hl2⟩ | hl1 | hl1
    · have e1 : (60 : Int) < (l.length : Int) := by omega
      have e2 : (l.length : Int) ≤ 2000 := by omega
      clear hlv hLv h14 hlen hll0
      go_enter Try.func6, Try.ntmps6
      go_wp2_with fail
      refine (some_law N A bs.length c hn _).mono ?_
      rw [HF.out]
      rintro e w1 ⟨rfl, hb1⟩
      have s1 := s0.step hb1
      go_wp2_with fail
      refine (alive_any _).mono ?_
      rintro e w2 ⟨rfl, hb2⟩
      have s2 := s1.step hb2
      go_wp2_with fail
      go_ret
      exact ⟨rfl, s2.bl⟩
    · have e1 : (60 : Int) < (l.length : Int) := by omega
      have e2 : (2000 : Int) < (l.length : Int) := by omega
      have e3 : (2005 : Int) < (l.length : Int) := by omega
      clear hlv hLv h14 hlen hll0
      go_enter Try.func6, Try.ntmps6
      go_wp2_with fail
      refine (some_law N A bs.length c hn _).mono ?_
      rw [HF.out]
      rintro e w1 ⟨rfl, hb1⟩
      have s1 := s0.step hb1
      go_wp2_with fail
      refine (alive_any _).mono ?_
      rintro e w2 ⟨rfl, hb2⟩
      have s2 := s1.step hb2
      go_wp2_with fail
      go_ret
      exact ⟨rfl, s2.bl⟩
    · have hll := hll0 hl1
      have b1 := fun A c w h => path_any N A c bs a b w h hLv
      have b2 := fun A c w h => rPath_any N A c bs a b w h hLv h14
      have b3 := fun A c w h h2 => checkPath_any N A c bs A2 c2 l a b most w h hLv h2 hll
      have b4 := fun A c w h h2 => rcheckPath_any N A c bs A2 c2 l a b most w h hLv h2 hll
      have hpl := Ln.paF_len14 (bs := bs) (a := a) (b := b) h14
      obtain ⟨⟨L, ex⟩, hX⟩ : ∃ X, Ln.paF N bs a b = X := ⟨_, rfl⟩
      obtain ⟨⟨is, ey⟩, hY⟩ : ∃ Y, Ln.chF N bs l a b most = Y := ⟨_, rfl⟩
      rw [hX] at b1 b2 hpl
      rw [hY] at b3 b4
      dsimp only at b1 b2 b3 b4 hpl
      have B1 := Lib.hid b1
      have B2 := Lib.hid b2
      have B3 := Lib.hid b3
      have B4 := Lib.hid b4
      clear b1 b2 b3 b4 hX hY h14 hlen hLv hlv hll0 hll
      have hlo : l.length ≤ 60 ∨ 60 < l.length := by omega
      rcases hl1 with hl1 | ⟨hl1, hl2⟩
      all_goals
        go_enter Try.func6, Try.ntmps6
        go_wp2_with fail
        refine (some_law N A bs.length c hn _).mono ?_
        rw [HF.out]
        rintro e w1 ⟨rfl, hb1⟩
        have s1 := s0.step hb1
        have l1 := (hL.below s1.bl (Nat.le_refl _)).more s1.bl.size
        obtain ⟨c0, c1, cl⟩ := s1.cells
        go_wp2_with fail
        refine (B1.out _ _ _ s1.rd).mono ?_
        rintro e w2 ⟨A1, d1, rfl, r1, hb2⟩
        have s2 := s1.step hb2
        clear c0 c1 cl l1
        obtain ⟨c0, c1, cl⟩ := s2.cells
        go_wp2_with fail
        refine (B2.out _ _ _ s2.rd).mono ?_
        rintro e w3 ⟨V, rfl, hV, hb3⟩
        obtain ⟨A3, d3, rfl, r2⟩ := own_rd hV
        have s3 := s2.step hb3
        have r1' := (r1.below hb3 (Nat.le_refl _)).more hb3.size
        have l3 := (hL.below s3.bl (Nat.le_refl _)).more s3.bl.size
        clear c0 c1 cl r1 hV
        obtain ⟨c0, c1, cl⟩ := s3.cells
        go_wp2_with fail
        refine (B3.out _ _ _ s3.rd l3).mono ?_
        rintro e w4 ⟨rfl, hb4⟩
        have s4 := s3.step hb4
        have l4 := (hL.below s4.bl (Nat.le_refl _)).more s4.bl.size
        have r1_4 := (r1'.below hb4 (Nat.le_refl _)).more hb4.size
        have r2_4 := (r2.below hb4 (Nat.le_refl _)).more hb4.size
        clear c0 c1 cl r1' r2 l3
        obtain ⟨c0, c1, cl⟩ := s4.cells
        go_wp2_with fail
        refine (B4.out _ _ _ s4.rd l4).mono ?_
        rintro e w5 ⟨rfl, hb5⟩
        have s5 := s4.step hb5
        have r1_5 := (r1_4.below hb5 (Nat.le_refl _)).more hb5.size
        have r2_5 := (r2_4.below hb5 (Nat.le_refl _)).more hb5.size
        clear c0 c1 cl r1_4 r2_4 l4
        go_wp2_with fail
        refine (alive_any _).mono ?_
        rintro e w6 ⟨rfl, hb6⟩
        have s6 := s5.step hb6
        have q1 := (r1_5.below hb6 (Nat.le_refl _)).more hb6.size
        have q2 := (r2_5.below hb6 (Nat.le_refl _)).more hb6.size
        rw [nlist_ints] at q1 q2
        have hsm := sameInts_any A1 d1 (Ln.zl L) A3 d3 (Ln.zl L) w6 (by rw [Ln.zl_length]; exact q1) (by rw [Ln.zl_length]; exact q2) (by rw [Ln.zl_length]; omega) (by rw [Ln.zl_length]; omega)
        rw [show sameI (Ln.zl L) (Ln.zl L) = true from by unfold sameI; simp, Ln.zl_length] at hsm
        have HSM := Lib.hid hsm
        clear hsm r1_5 r2_5 q1 q2
        go_wp2_with fail
        refine HSM.out.mono ?_
        rintro e w7 ⟨rfl, hb7⟩
        have s7 := s6.step hb7
        go_wp2_with fail
        go_ret
        exact ⟨rfl, s7.bl⟩

end Go.Proofs.Ytppfpdhgckghdaa
