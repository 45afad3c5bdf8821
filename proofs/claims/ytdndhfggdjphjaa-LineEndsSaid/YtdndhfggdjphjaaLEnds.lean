/-
  LineEnds: the law's walk.
-/
import Derived.Test.YtdndhfggdjphjaaAlive
import Derived.Test.YtdndhfggdjphjaaCons
set_option linter.unusedVariables false
set_option linter.unusedSimpArgs false
namespace Go.Proofs.Ytdndhfggdjphjaa
open Go.RowKit Go.Shelf

namespace Ln
theorem diF_inv {N : Int} {bs : List Bd} {a b d : Int} (h : diF N bs a b = (d, true, 0)) : soundF N bs [a, b] = 0 ∧ dF N bs a b ≠ NONE ∧ dF N bs a b = d := by
  unfold diF at h
  split at h
  · rename_i h1
    split at h
    · cases h
    · rename_i h2
      simp only [Prod.mk.injEq] at h
      exact ⟨h1, h2, h.1⟩
  · cases h
theorem some_bound {N : Int} {bs : List Bd} {a b : Int} (hs : soundF N bs [a, b] = 0) (hne : dF N bs a b ≠ NONE) (hab : a ≠ b) : 0 < bs.length := by
  obtain ⟨hcp, hco, hc⟩ := sound_zero hs
  obtain ⟨hok, hNt⟩ := ok_of_check hc
  have hN := (cons_iff hok).1 hco
  have ha := pts_of hcp (p := a) (by simp)
  have hb := pts_of hcp (p := b) (by simp)
  have ht := hok.top
  obtain ⟨l, hl⟩ := (dist_ok hok hN (a := a.toNat) (by omega)).some b.toNat (by omega) hne
  cases l with
  | nil => have := hl.nil_inv; omega
  | cons i l => have := (hl.live i (by simp)).1; omega
end Ln

set_option maxRecDepth 100000 in
set_option maxHeartbeats 4000000 in
theorem lineEnds_any (N : Int) (A : Option Addr) (c : Nat) (bs : List Ln.Bd) (a b : Int) (w : World) (hR : Rd w w.heap.size 4 A bs.length (bcells bs)) (hn : bs.length ≤ 9223372036854775807) (hlv : ∀ x ∈ bs, x.gone = false) :
    Calls Try.prog 7 #[.agg #[.int .i64 N, .slice A bs.length c], .int .i64 a, .int .i64 b] w fun e w' => e = .returned (.bool true) ∧ Below w.heap.size w w' := by
  have s0 := Sy.new (w := w) N c hR
  rcases hf : Ln.fewF N bs.length 14 40 with _ | _
  · go_enter Try.func7, Try.ntmps7
    go_wp2_with fail
    refine (some_law N A bs.length c hn _).mono ?_
    rw [hf]
    rintro e w1 ⟨rfl, hb1⟩
    have s1 := s0.step hb1
    go_wp2_with fail
    refine (alive_any _).mono ?_
    rintro e w2 ⟨rfl, hb2⟩
    have s2 := s1.step hb2
    go_wp2_with fail
    go_ret
    exact ⟨rfl, s2.bl⟩
  · have hlen := Ln.fewF_len hf (by omega)
    have hLv : Ln.Lv bs := ⟨by omega, hlv⟩
    have HDI := Lib.hid fun w h => distance_any N A c bs a b w h hLv
    obtain ⟨d, hd⟩ : ∃ d, Ln.diF N bs a b = d := ⟨_, rfl⟩
    rw [hd] at HDI
    obtain ⟨d, is, e⟩ := d
    dsimp only at HDI
    -- the walk up to the first test
    by_cases hok : e = 0 ∧ is = true ∧ a ≠ b ∧ -999999 ≤ d ∧ d ≤ 999999
    · obtain ⟨rfl, rfl, hab, hd1, hd2⟩ := hok
      obtain ⟨q1, q2, q3⟩ := Ln.diF_inv hd
      have hpos := Ln.some_bound q1 q2 hab
      obtain ⟨_, _, hck⟩ := Ln.sound_zero q1
      have hfo := Ln.fewF_ok hf hck
      obtain ⟨e1, e2, e3, e4⟩ := Ln.ends_one hck (by omega) hlv q1 q2 hab (by omega) (by omega)
      rw [q3] at e1 e2 e3 e4
      have hco1 : Ln.coF N (bs ++ [⟨b, a, -d, 0, false⟩]) = (true, 0) := by rw [Ln.coF, if_pos e1, e2]
      have hco2 : Ln.coF N (bs ++ [⟨b, a, -d - 1, 0, false⟩]) = (false, 0) := by rw [Ln.coF, if_pos e3, e4]
      have hlv1 : Ln.Lv (bs ++ [⟨b, a, -d, 0, false⟩]) := ⟨by simp; omega, fun x hx => by
        rcases List.mem_append.1 hx with hx | hx
        · exact hlv x hx
        · rw [List.mem_singleton.1 hx]⟩
      have hlv2 : Ln.Lv (bs ++ [⟨b, a, -d - 1, 0, false⟩]) := ⟨by simp; omega, fun x hx => by
        rcases List.mem_append.1 hx with hx | hx
        · exact hlv x hx
        · rw [List.mem_singleton.1 hx]⟩
      have HW1 := Lib.hid fun w h => with_any N A c bs ⟨b, a, -d, 0, false⟩ w h hpos (by omega)
      have HW2 := Lib.hid fun w h => with_any N A c bs ⟨b, a, -d - 1, 0, false⟩ w h hpos (by omega)
      obtain ⟨cs1, hcs1⟩ : ∃ cs, bs ++ [(⟨b, a, -d, 0, false⟩ : Ln.Bd)] = cs := ⟨_, rfl⟩
      obtain ⟨cs2, hcs2⟩ : ∃ cs, bs ++ [(⟨b, a, -d - 1, 0, false⟩ : Ln.Bd)] = cs := ⟨_, rfl⟩
      rw [hcs1] at HW1 hlv1 hco1
      rw [hcs2] at HW2 hlv2 hco2
      have HC1 := Lib.hid fun A c w h => cons_any N A c cs1 w h hlv1
      have HC2 := Lib.hid fun A c w h => cons_any N A c cs2 w h hlv2
      rw [hco1] at HC1
      rw [hco2] at HC2
      clear hcs1 hcs2
      have hne : (a == b) = false := by simp [hab]
      have HF := Lib.hid hf
      clear hd q1 q2 q3 hck hfo e1 e2 e3 e4 hco1 hco2 hlv1 hlv2 hf hab hLv
      go_enter Try.func7, Try.ntmps7
      go_wp2_with fail
      refine (some_law N A bs.length c hn _).mono ?_
      rw [HF.out]
      rintro e w1 ⟨rfl, hb1⟩
      have s1 := s0.step hb1
      obtain ⟨c0, c1, cl⟩ := s1.cells
      go_wp2_with fail
      refine (HDI.out _ s1.rd).mono ?_
      rintro e w2 ⟨rfl, hb2⟩
      have s2 := s1.step hb2
      clear c0 c1 cl
      obtain ⟨c0, c1, cl⟩ := s2.cells
      go_wp2_with fail
      refine (HW1.out _ s2.rd).mono ?_
      rintro e w3 ⟨A3, c3, rfl, hr3, hb3⟩
      have s3 := s2.step hb3
      clear c0 c1 cl
      obtain ⟨c0, c1, cl⟩ := s3.cells
      go_wp2_with fail
      refine (HC1.out _ _ _ hr3).mono ?_
      rintro e w4 ⟨rfl, hb4⟩
      have s4 := s3.step hb4
      clear c0 c1 cl
      obtain ⟨c0, c1, cl⟩ := s4.cells
      go_wp2_with fail
      refine (HW2.out _ s4.rd).mono ?_
      rintro e w5 ⟨A5, c5, rfl, hr5, hb5⟩
      have s5 := s4.step hb5
      clear c0 c1 cl
      obtain ⟨c0, c1, cl⟩ := s5.cells
      go_wp2_with fail
      refine (HC2.out _ _ _ hr5).mono ?_
      rintro e w6 ⟨rfl, hb6⟩
      have s6 := s5.step hb6
      clear c0 c1 cl
      go_wp2_with fail
      refine (alive_any _).mono ?_
      rintro e w7 ⟨rfl, hb7⟩
      have s7 := s6.step hb7
      go_wp2_with fail
      go_ret
      exact ⟨rfl, s7.bl⟩
    · have HF := Lib.hid hf
      have HOK := Lib.hid hok
      clear hf hok hd
      have fin : ∀ (e' : Bool), e' = true → True := fun _ _ => trivial
      by_cases h1 : e = 0
      · subst h1
        cases is with
        | false =>
          go_enter Try.func7, Try.ntmps7
          go_wp2_with fail
          refine (some_law N A bs.length c hn _).mono ?_
          rw [HF.out]
          rintro e w1 ⟨rfl, hb1⟩
          have s1 := s0.step hb1
          obtain ⟨c0, c1, cl⟩ := s1.cells
          go_wp2_with fail
          refine (HDI.out _ s1.rd).mono ?_
          rintro e w2 ⟨rfl, hb2⟩
          have s2 := s1.step hb2
          go_wp2_with fail
          refine (alive_any _).mono ?_
          rintro e w3 ⟨rfl, hb3⟩
          have s3 := s2.step hb3
          go_wp2_with fail
          go_ret
          exact ⟨rfl, s3.bl⟩
        | true =>
          by_cases h2 : a = b
          · subst h2
            go_enter Try.func7, Try.ntmps7
            go_wp2_with fail
            refine (some_law N A bs.length c hn _).mono ?_
            rw [HF.out]
            rintro e w1 ⟨rfl, hb1⟩
            have s1 := s0.step hb1
            obtain ⟨c0, c1, cl⟩ := s1.cells
            go_wp2_with fail
            refine (HDI.out _ s1.rd).mono ?_
            rintro e w2 ⟨rfl, hb2⟩
            have s2 := s1.step hb2
            go_wp2_with fail
            refine (alive_any _).mono ?_
            rintro e w3 ⟨rfl, hb3⟩
            have s3 := s2.step hb3
            go_wp2_with fail
            go_ret
            exact ⟨rfl, s3.bl⟩
          · have hne : (a == b) = false := by simp [h2]
            have H2 := Lib.hid h2
            clear h2
            rcases Int.lt_or_le d (-999999) with h3 | h3
            · go_enter Try.func7, Try.ntmps7
              go_wp2_with fail
              refine (some_law N A bs.length c hn _).mono ?_
              rw [HF.out]
              rintro e w1 ⟨rfl, hb1⟩
              have s1 := s0.step hb1
              obtain ⟨c0, c1, cl⟩ := s1.cells
              go_wp2_with fail
              refine (HDI.out _ s1.rd).mono ?_
              rintro e w2 ⟨rfl, hb2⟩
              have s2 := s1.step hb2
              go_wp2_with fail
              refine (alive_any _).mono ?_
              rintro e w3 ⟨rfl, hb3⟩
              have s3 := s2.step hb3
              go_wp2_with fail
              go_ret
              exact ⟨rfl, s3.bl⟩
            · have h4 : 999999 < d := by
                rcases Int.lt_or_le 999999 d with h | h
                · exact h
                · exact absurd ⟨rfl, rfl, H2.out, h3, h⟩ HOK.out
              go_enter Try.func7, Try.ntmps7
              go_wp2_with fail
              refine (some_law N A bs.length c hn _).mono ?_
              rw [HF.out]
              rintro e w1 ⟨rfl, hb1⟩
              have s1 := s0.step hb1
              obtain ⟨c0, c1, cl⟩ := s1.cells
              go_wp2_with fail
              refine (HDI.out _ s1.rd).mono ?_
              rintro e w2 ⟨rfl, hb2⟩
              have s2 := s1.step hb2
              go_wp2_with fail
              refine (alive_any _).mono ?_
              rintro e w3 ⟨rfl, hb3⟩
              have s3 := s2.step hb3
              go_wp2_with fail
              go_ret
              exact ⟨rfl, s3.bl⟩
      · have hne : (e != 0) = true := by simp [h1]
        clear h1
        go_enter Try.func7, Try.ntmps7
        go_wp2_with fail
        refine (some_law N A bs.length c hn _).mono ?_
        rw [HF.out]
        rintro e w1 ⟨rfl, hb1⟩
        have s1 := s0.step hb1
        obtain ⟨c0, c1, cl⟩ := s1.cells
        go_wp2_with fail
        refine (HDI.out _ s1.rd).mono ?_
        rintro e w2 ⟨rfl, hb2⟩
        have s2 := s1.step hb2
        go_wp2_with fail
        refine (alive_any _).mono ?_
        rintro e w3 ⟨rfl, hb3⟩
        have s3 := s2.step hb3
        go_wp2_with fail
        go_ret
        exact ⟨rfl, s3.bl⟩

end Go.Proofs.Ytdndhfggdjphjaa
