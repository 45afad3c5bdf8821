/-
  LineLattice: the law's walk, for all systems and lists.
-/
import Derived.Test.YtdndhfggdjphjaaLLatff
import Derived.Test.YtdndhfggdjphjaaLLatft
import Derived.Test.YtdndhfggdjphjaaLLattf
import Derived.Test.YtdndhfggdjphjaaLLattt
set_option linter.unusedVariables false
set_option linter.unusedSimpArgs false
namespace Go.Proofs.Ytdndhfggdjphjaa
open Go.RowKit Go.Shelf

theorem lineLattice_any (N : Int) (A : Option Addr) (c : Nat) (bs : List Ln.Bd) (Ay : Option Addr) (cy : Nat) (y : List Int) (Az : Option Addr) (cz : Nat) (z : List Int) (w : World)
    (hR : Rd w w.heap.size 4 A bs.length (bcells bs)) (hn : bs.length ≤ 9223372036854775807) (hlv : ∀ x ∈ bs, x.gone = false) (hY : Rd w w.heap.size 1 Ay y.length (ints y)) (hZ : Rd w w.heap.size 1 Az z.length (ints z)) :
    Calls Try.prog 8 #[.agg #[.int .i64 N, .slice A bs.length c], .slice Ay y.length cy, .slice Az z.length cz] w fun e w' => e = .returned (.bool true) ∧ Below w.heap.size w w' := by
  by_cases hf : Ln.fewF N bs.length 14 40 = true
  · by_cases hy : y.length ≤ 20
    · by_cases hz : z.length ≤ 20
      · have hlen := Ln.fewF_len hf (by omega)
        have hLv : Ln.Lv bs := ⟨by omega, hlv⟩
        have H1 : LsC N bs (Ln.leF N bs).1 (Ln.leF N bs).2 := fun A c w h => least_any N A c bs w h hLv
        have H2 : GsC N bs (Ln.grF N bs).1 (Ln.grF N bs).2 := fun A c w h => greatest_any N A c bs w h hLv
        have HK : ∀ x : List Int, x.length ≤ 1000000 → KpC N bs x (Ln.keptF N bs x).1 (Ln.keptF N bs x).2.1 (Ln.keptF N bs x).2.2 := fun x hx A c A2 c2 w h1 h2 => kept_any N A c bs A2 c2 x w h1 hLv.len h2 hx
        have hle : (Ln.leF N bs).1.length ≤ 1000000 := by
          by_cases e : (Ln.leF N bs).2 = 0
          · have h := (Ln.leF_ok e).len
            have hck : Ln.check N bs = 0 := by
              have hg : (Ln.grF N (Ln.revs bs)).2 = 0 := e
              unfold Ln.grF at hg
              split at hg
              · rename_i hs
                rw [Ln.sound_rev] at hs
                exact (Ln.sound_zero hs).2.2
              · rename_i hs
                exact absurd hg hs
            have := (Ln.fewF_ok hf hck).1
            omega
          · rw [Ln.leF_err e]; simp
        have hgle : (Ln.grF N bs).1.length ≤ 1000000 := by
          by_cases e : (Ln.grF N bs).2 = 0
          · have h := (Ln.grF_ok e).len
            have hck : Ln.check N bs = 0 := by
              have hg := e
              unfold Ln.grF at hg
              split at hg
              · rename_i hs
                exact (Ln.sound_zero hs).2.2
              · rename_i hs
                exact absurd hg hs
            have := (Ln.fewF_ok hf hck).1
            omega
          · rw [Ln.grF_err e]; simp
        have hcl : (Ln.leF N bs).2 = 0 → Ln.check N bs = 0 := fun e => by
          have hg : (Ln.grF N (Ln.revs bs)).2 = 0 := e
          unfold Ln.grF at hg
          split at hg
          · rename_i hs
            rw [Ln.sound_rev] at hs
            exact (Ln.sound_zero hs).2.2
          · rename_i hs
            exact absurd hg hs
        have hcg : (Ln.grF N bs).2 = 0 → Ln.check N bs = 0 := fun e => by
          have hg := e
          unfold Ln.grF at hg
          split at hg
          · rename_i hs
            exact (Ln.sound_zero hs).2.2
          · rename_i hs
            exact absurd hg hs
        have L1 : 0 < (Ln.leF N bs).1.length → KpC N bs (Ln.leF N bs).1 0 true 0 := fun h => by
          by_cases e : (Ln.leF N bs).2 = 0
          · have h1 := HK _ hle
            rw [Ln.kept_le (hcl e) hlv (Ln.leF_ok e)] at h1
            exact h1
          · rw [Ln.leF_err e] at h; simp at h
        have L2 : 0 < (Ln.grF N bs).1.length → KpC N bs (Ln.grF N bs).1 0 true 0 := fun h => by
          by_cases e : (Ln.grF N bs).2 = 0
          · have h1 := HK _ hgle
            rw [Ln.kept_gr (hcg e) hlv (Ln.grF_ok e)] at h1
            exact h1
          · rw [Ln.grF_err e] at h; simp at h
        have GOOD : (Ln.keptF N bs y).2.1 = true → (Ln.keptF N bs z).2.1 = true → (Ln.keptF N bs y).2.2 = 0 → (Ln.keptF N bs z).2.2 = 0 → ∃ n : Nat, N = n ∧ n ≤ 14 ∧ y.length = n ∧ z.length = n ∧ ((Ln.leF N bs).2 = 0 → (Ln.leF N bs).1.length = n ∧ ∀ p, p < n → Ln.gt (Ln.leF N bs).1 p ≤ min (Ln.gt y p) (Ln.gt z p)) ∧ ((Ln.grF N bs).2 = 0 → (Ln.grF N bs).1.length = n ∧ ∀ p, p < n → max (Ln.gt y p) (Ln.gt z p) ≤ Ln.gt (Ln.grF N bs).1 p) ∧
            KpC N bs ((List.range n).map (fun p => min (Ln.gt y p) (Ln.gt z p))) 0 true 0 ∧ KpC N bs ((List.range n).map (fun p => max (Ln.gt y p) (Ln.gt z p))) 0 true 0 := fun k1 k2 _ _ => by
          obtain ⟨hc, y1, y2, y3, y4, _⟩ := Ln.keptF_inv k1
          obtain ⟨_, z1, z2, z3, z4, _⟩ := Ln.keptF_inv k2
          have h14 := (Ln.fewF_ok hf hc).1
          have hlat := Ln.lat_ok (N := N) hlv k1 k2
          have hN : N.toNat = y.length := by omega
          rw [← y1] at h14
          refine ⟨y.length, y1.symm, by omega, rfl, by omega, fun e => ?_, fun e => ?_, ?_, ?_⟩
          · have h := Ln.leF_ok e
            refine ⟨by have := h.len; omega, fun p hp => ?_⟩
            have a := h.low _ y4 y2 p (by omega)
            have b := h.low _ z4 z2 p (by omega)
            omega
          · have h := Ln.grF_ok e
            refine ⟨by have := h.len; omega, fun p hp => ?_⟩
            have a := h.top _ y4 y2 p (by omega)
            have b := h.top _ z4 z2 p (by omega)
            omega
          · have h1 := HK ((List.range y.length).map (fun p => min (Ln.gt y p) (Ln.gt z p))) (by simp; omega)
            have h2 := hlat.less
            rw [hN] at h2
            rw [h2] at h1
            exact h1
          · have h1 := HK ((List.range y.length).map (fun p => max (Ln.gt y p) (Ln.gt z p))) (by simp; omega)
            have h2 := hlat.more
            rw [hN] at h2
            rw [h2] at h1
            exact h1
        have HKy := HK y (by omega)
        have HKz := HK z (by omega)
        rcases e1 : ((Ln.leF N bs).2 == 0) with _ | _ <;> rcases e2 : ((Ln.grF N bs).2 == 0) with _ | _
        · exact lattice_ff N A c bs Ay cy y Az cz z w hR hn hf hy hz _ _ _ _ _ _ _ _ _ _ (Lib.hid e1) (Lib.hid e2) (Lib.hid H1) (Lib.hid H2) (Lib.hid HKy) (Lib.hid HKz) (Lib.hid L1) (Lib.hid L2) (Lib.hid GOOD) hY hZ
        · exact lattice_ft N A c bs Ay cy y Az cz z w hR hn hf hy hz _ _ _ _ _ _ _ _ _ _ (Lib.hid e1) (Lib.hid e2) (Lib.hid H1) (Lib.hid H2) (Lib.hid HKy) (Lib.hid HKz) (Lib.hid L1) (Lib.hid L2) (Lib.hid GOOD) hY hZ
        · exact lattice_tf N A c bs Ay cy y Az cz z w hR hn hf hy hz _ _ _ _ _ _ _ _ _ _ (Lib.hid e1) (Lib.hid e2) (Lib.hid H1) (Lib.hid H2) (Lib.hid HKy) (Lib.hid HKz) (Lib.hid L1) (Lib.hid L2) (Lib.hid GOOD) hY hZ
        · exact lattice_tt N A c bs Ay cy y Az cz z w hR hn hf hy hz _ _ _ _ _ _ _ _ _ _ (Lib.hid e1) (Lib.hid e2) (Lib.hid H1) (Lib.hid H2) (Lib.hid HKy) (Lib.hid HKz) (Lib.hid L1) (Lib.hid L2) (Lib.hid GOOD) hY hZ
      · exact lattice_early N A c bs Ay cy y Az cz z w hR hn (.inr (.inr (by omega)))
    · exact lattice_early N A c bs Ay cy y Az cz z w hR hn (.inr (.inl (by omega)))
  · exact lattice_early N A c bs Ay cy y Az cz z w hR hn (.inl (by simpa using hf))

end Go.Proofs.Ytdndhfggdjphjaa
