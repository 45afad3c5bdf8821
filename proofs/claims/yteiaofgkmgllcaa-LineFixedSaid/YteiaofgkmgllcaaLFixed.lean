/-
  LineFixed: the law's walk.
-/
import Derived.Test.YteiaofgkmgllcaaAlive
import Derived.Test.YteiaofgkmgllcaaCons
import Derived.Test.YteiaofgkmgllcaaRigP
import Derived.Test.YteiaofgkmgllcaaKeptL
import Derived.Test.YteiaofgkmgllcaaBetw
import Derived.Test.YteiaofgkmgllcaaFixM
import Derived.Test.YteiaofgkmgllcaaChk
set_option linter.unusedVariables false
set_option linter.unusedSimpArgs false
namespace Go.Proofs.Yteiaofgkmgllcaa
open Go.RowKit Go.Shelf Go.Maps

theorem zeroIn (w : World) : (zeroValue 3).run Try.prog w = .ok (.int .i64 0) w := by kernel_rfl
/-- A map of ints in memory. -/
def IsMp (w : World) (g n : Nat) (D : DataW Unit) : Prop := w.ownsMap Try.prog 3 (plainElem Try.prog 3) g n D
theorem IsMp.below {w w' : World} {g n C : Nat} {D : DataW Unit} (h : IsMp w g n D) (hb : Below C w w') (hg : g < C) : IsMp w' g n D := by
  obtain ⟨es, clock, h1, h2⟩ := h
  exact ⟨es, clock, (hb.block g hg).trans h1, h2⟩

namespace Ln
/-- The map when i classes, and k points of the next one, are entered. -/
structure FxM (w : World) (mb : Nat) (L : List (List Nat)) (ix : Nat → Nat) (i k : Nat) : Prop where
  own : IsMp w mb (fxK L i k).length (fxD ix (fxK L i k))
  size : Maps.size (fxD ix (fxK L i k)) = (fxK L i k).length
theorem rise_len {l : List Nat} {m : Nat} (h : l.Pairwise (· < ·)) (hm : ∀ x ∈ l, x < m) : l.length ≤ m := by
  have hnd : l.Nodup := h.imp (fun h => by omega)
  exact pigeon hnd hm
theorem fxK_le {bs : List Bd} {n : Nat} {L : List (List Nat)} {ix : Nat → Nat} (h : Classes bs n L ix) (i k : Nat) : (fxK L i k).length ≤ n := by
  rw [← fx_flat h]
  unfold fxK
  by_cases hi : i < L.length
  · rw [List.getD_eq_getElem?_getD, List.getElem?_eq_getElem hi, Option.getD_some]
    have e : L.flatten = (L.take i).flatten ++ (L[i] ++ (L.drop (i + 1)).flatten) := by
      rw [← List.flatten_cons, ← List.flatten_append, ← List.drop_eq_getElem_cons hi, List.take_append_drop]
    rw [e]
    simp only [List.length_append, List.length_take]
    omega
  · rw [List.getD_eq_getElem?_getD, List.getElem?_eq_none (by omega), List.take_of_length_le (by omega)]
    simp
theorem fx_sound {N : Int} {bs : List Bd} (h : soundF N bs [] = 0) {a b : Int} (ha : 0 ≤ a) (ha1 : a < N) (hb : 0 ≤ b) (hb1 : b < N) : soundF N bs [a, b] = 0 := by
  obtain ⟨_, h2, h3⟩ := sound_zero h
  unfold soundF cpF
  rw [if_pos h3]
  have : [a, b].all (isPoint N) = true := by simp [isPoint]; omega
  rw [if_pos this, if_pos rfl, if_pos h2]
theorem fx_meet {bs : List Bd} {n a b : Nat} : meet bs n a b = ((lowF 0 (dF (n : Int) bs b a)).2 && (highF 0 (dF (n : Int) bs a b)).2 && decide ((lowF 0 (dF (n : Int) bs b a)).1 = (highF 0 (dF (n : Int) bs a b)).1)) := by
  unfold meet meetsF dF
  simp only [Int.toNat_natCast]
theorem fx_value {N : Int} {bs : List Bd} {n a b : Nat} (hn : N = n) (hN : NoNeg bs) (ha : a < n) (hb : b < n) {y : List Int} (h : (keptF N bs y).2.1 = true) (hm : meet bs n a b = true) :
    gt y b - gt y a = (lowF 0 (dF (n : Int) bs b a)).1 := by
  subst hn
  obtain ⟨h1, h2, h3, h4, h5, h6⟩ := keptF_inv h
  have hok := (ok_of_check h1).1
  rw [Int.toNat_natCast] at hok
  have ht := hok.top
  obtain ⟨m1, m2, m3⟩ := meet_iff.1 hm
  have d1 := (dist_ok hok hN ha).pot (v := b) (by omega) m1 h5
  have d2 := (dist_ok hok hN hb).pot (v := a) (by omega) m2 h5
  unfold lowF dF
  simp only [Int.toNat_natCast]
  rw [if_neg m2]
  dsimp only
  omega
end Ln

section
variable (N : Int) (A : Option Addr) (c : Nat) (bs : List Ln.Bd) (A2 : Option Addr) (c2 : Nat) (y : List Int) (w : World)

set_option maxRecDepth 100000 in
set_option maxHeartbeats 2000000 in
theorem fixed_early (hR : Rd w w.heap.size 4 A bs.length (bcells bs)) (hn : bs.length ≤ 9223372036854775807) (h : Ln.fewF N bs.length 14 40 = false ∨ (Ln.fewF N bs.length 14 40 = true ∧ 20 < y.length)) :
    Calls Try.prog 4 #[.agg #[.int .i64 N, .slice A bs.length c], .slice A2 y.length c2] w fun e w' => e = .returned (.bool true) ∧ Below w.heap.size w w' := by
  have s0 := Sy.new (w := w) N c hR
  have hc : (Ln.fewF N bs.length 14 40 = false) ∨ (Ln.fewF N bs.length 14 40 = true ∧ (20 : Int) < (y.length : Int)) := h.imp id (fun ⟨a, b⟩ => ⟨a, by omega⟩)
  clear h
  rcases hc with h | ⟨h, hl⟩
  all_goals
    have HF := Lib.hid h
    clear h
    go_enter Try.func4, Try.ntmps4
    go_wp2_with fail
    refine (some_law N A bs.length c hn _).mono ?_
    rw [HF.out]
    rintro e w1 ⟨rfl, hb1⟩
    have s1 := s0.step hb1
    go_wp2_with fail
    refine (alive_any _).mono ?_
    rintro e w2 ⟨rfl, hb2⟩
    have s2 := s1.step hb2
    go_wp2_with fail
    go_ret
    exact ⟨rfl, s2.bl⟩

set_option maxRecDepth 100000 in
set_option maxHeartbeats 2000000 in
theorem fixed_bad (hR : Rd w w.heap.size 4 A bs.length (bcells bs)) (hn : bs.length ≤ 9223372036854775807) (hlv : Ln.Lv bs) (hf : Ln.fewF N bs.length 14 40 = true) (hl : (y.length : Int) ≤ 20) (hs : Ln.soundF N bs [] ≠ 0) :
    Calls Try.prog 4 #[.agg #[.int .i64 N, .slice A bs.length c], .slice A2 y.length c2] w fun e w' => e = .returned (.bool true) ∧ Below w.heap.size w w' := by
  have s0 := Sy.new (w := w) N c hR
  have hri := fun w h => rigid_any N A c bs w h hlv
  simp only [Ln.rgF_bad hs] at hri
  have hne : (Ln.soundF N bs [] != 0) = true := by simp [hs]
  obtain ⟨s, hss⟩ : ∃ s, Ln.soundF N bs [] = s := ⟨_, rfl⟩
  rw [hss] at hne
  simp only [hss] at hri
  have HRI := Lib.hid hri
  have HF := Lib.hid hf
  clear hri hss hs hf hlv
  go_enter Try.func4, Try.ntmps4
  go_wp2_with fail
  refine (some_law N A bs.length c hn _).mono ?_
  rw [HF.out]
  rintro e w1 ⟨rfl, hb1⟩
  have s1 := s0.step hb1
  obtain ⟨c0, c1, cl⟩ := s1.cells
  go_wp2_with fail
  refine (HRI.out _ s1.rd).mono ?_
  rintro e w2 ⟨V, rfl, ⟨Av, cv, vs, rfl, hrv, _⟩, hb2⟩
  have s2 := s1.step hb2
  clear hrv c0 c1 cl
  go_wp2_with fail
  refine (alive_any _).mono ?_
  rintro e w3 ⟨rfl, hb3⟩
  have s3 := s2.step hb3
  go_wp2_with fail
  go_ret
  exact ⟨rfl, s3.bl⟩

set_option maxRecDepth 100000 in
set_option maxHeartbeats 8000000 in
theorem fixed_main (hR : Rd w w.heap.size 4 A bs.length (bcells bs)) (hn : bs.length ≤ 9223372036854775807) (hlv : Ln.Lv bs) (hf : Ln.fewF N bs.length 14 40 = true) (hY : Rd w w.heap.size 1 A2 y.length (ints y)) (hl : (y.length : Int) ≤ 20) (hs : Ln.soundF N bs [] = 0) :
    Calls Try.prog 4 #[.agg #[.int .i64 N, .slice A bs.length c], .slice A2 y.length c2] w fun e w' => e = .returned (.bool true) ∧ Below w.heap.size w w' := by
  have s0 := Sy.new (w := w) N c hR
  obtain ⟨_, hco, hck⟩ := Ln.sound_zero hs
  obtain ⟨hok, hNt⟩ := Ln.ok_of_check hck
  obtain ⟨hN14, hb40⟩ := Ln.fewF_ok hf hck
  have hNN := (Ln.cons_iff hok).1 hco
  have hpos := hok.pos
  have hmm := @run_makeMap Try.prog
  obtain ⟨n, hnn⟩ : ∃ n, N.toNat = n := ⟨_, rfl⟩
  rw [hnn] at hok hNt hpos
  subst hNt
  obtain ⟨ix, hCl⟩ := Ln.classes_of hok hNN
  have hri := fun w h => rigid_any (n : Int) A c bs w h hlv
  rw [Ln.rgF, if_pos hs, Int.toNat_natCast] at hri
  dsimp only at hri
  have hkp := fun w h h2 => kept_any (n : Int) A c bs A2 c2 y w h (by omega) h2 (by omega)
  have hbt := fun (a b : Nat) (ha : a < n) (hb : b < n) w h => between_ok (n : Int) A c bs (a : Int) (b : Int) w h hlv (Ln.fx_sound hs (by omega) (by omega) (by omega) (by omega))
  have hfl := Ln.fx_flat hCl
  have hval := fun (a b : Nat) (ha : a < n) (hb : b < n) => Ln.fx_value (N := (n : Int)) (n := n) (y := y) rfl hNN ha hb
  have hmt := fun (a b : Nat) => Ln.fx_meet (bs := bs) (n := n) (a := a) (b := b)
  obtain ⟨L, hLL⟩ : ∃ L, (Ln.rgK bs n n).1 = L := ⟨_, rfl⟩
  rw [hLL] at hri hCl hfl
  obtain ⟨⟨kv, kr, ke⟩, hkk⟩ : ∃ q, Ln.keptF (n : Int) bs y = q := ⟨_, rfl⟩
  simp only [hkk] at hkp hval
  have hke : kr = true → ke = 0 ∧ y.length = n := fun h => by
    have := Ln.keptF_inv (N := (n : Int)) (bs := bs) (y := y) (by rw [hkk]; exact h)
    obtain ⟨_, h2, _, _, _, h6⟩ := this
    rw [hkk] at h6
    simp at h6
    exact ⟨h6.2.2, by omega⟩
  have hsml : kr = true → ∀ k (h : k < y.length), -400000000 ≤ y[k] ∧ y[k] ≤ 400000000 := fun h k hk => by
    have := Ln.keptF_inv (N := (n : Int)) (bs := bs) (y := y) (by rw [hkk]; exact h)
    have h2 := this.2.2.2.1 k hk
    rw [Ln.gt_eq hk] at h2
    exact h2
  have HSML := Lib.hid hsml
  have HF := Lib.hid hf
  have HRI := Lib.hid hri
  have HKP := Lib.hid hkp
  have HBT := Lib.hid hbt
  have HFL := Lib.hid hfl
  have HCL := Lib.hid hCl
  have HVAL := Lib.hid hval
  have HMT := Lib.hid hmt
  have HKE := Lib.hid hke
  have hn14 : n ≤ 14 := by omega
  clear hsml hf hri hkp hbt hfl hCl hval hmt hke hkk hLL hs hco hck hok hNN hnn hlv hN14
  go_enter Try.func4, Try.ntmps4
  go_wp2_with fail
  refine (some_law (n : Int) A bs.length c hn _).mono ?_
  rw [HF.out]
  rintro e w1 ⟨rfl, hb1⟩
  have s1 := s0.step hb1
  obtain ⟨c0, c1, cl⟩ := s1.cells
  go_wp2_with fail
  refine (HRI.out _ s1.rd).mono ?_
  rintro e w2 ⟨V, rfl, hV, hb2⟩
  have s2 := s1.step hb2
  clear c0 c1 cl hb1 hb2 s0 s1
  obtain ⟨Av, cv, vs, rfl, hrv, hrow⟩ := hV
  have HROW := Lib.hid hrow
  have hL0 : 0 < L.length := by
    obtain ⟨i, h, _⟩ := HCL.out.all 0 (by omega)
    omega
  obtain ⟨bv, ov, rfl, hbv, hcv⟩ := hrv.2 (by omega)
  have HCV := Lib.hid hcv
  clear hrow hrv hcv
  have hb3 : Below w2.heap.size w2 (w2.alloc (.map #[] 0)) := (Below.refl _ _).alloc (Nat.le_refl _) _
  have hM0 : IsMp (w2.alloc (.map #[] 0)) w2.heap.size 0 (.map []) := World.ownsMap_made w2 Try.prog 3 (plainElem Try.prog 3)
  have hL14 := HCL.out.len
  go_wp2_with fail
  obtain ⟨mb, hmb⟩ : ∃ mb, w2.heap.size = mb := ⟨_, rfl⟩
  have hFx : Ln.FxM (w2.alloc (.map #[] 0)) mb L ix 0 0 := ⟨by rw [Ln.fxK_zero, ← hmb]; exact hM0, by rw [Ln.fxK_zero]; exact Ln.fxD_zero _⟩
  have HMB := Lib.hid hmb
  rw [hmb] at ⊢
  clear hM0 hmb
  go_loopw [49] (fun I wr => ∃ i : Nat, i ≤ L.length ∧ I = .int .i64 i ∧ Ln.FxM wr mb L ix i 0 ∧ mb < wr.heap.size ∧ Below w2.heap.size w2 wr)
    (fun I _ => L.length - (intOf I).toNat)
  case atStart => exact ⟨0, Nat.zero_le _, rfl, hFx, by rw [← HMB.out]; simp, hb3⟩
  case round =>
    clear hFx hb3
    obtain ⟨i, hi, rfl, hFx, hml, hB⟩ := hrel
    by_cases hil : i < L.length
    · obtain ⟨A', c', hvi, hri⟩ := HROW.out i hil
      have hneO := HCL.out.ne i hil
      have hle := HCL.out.len
      have hvi2 := HCV.out i (by omega)
      have evO : wr.cell? ⟨bv, ov + i, none⟩ = some (.slice A' L[i].length c') := (hB.cell (p := ⟨bv, ov + i, none⟩) hbv).trans (hvi2.trans hvi)
      obtain ⟨bl, ol, rfl, hbl, hcl⟩ := hri.2 (by omega)
      have hb14O : L[i].length ≤ 14 := by
        have h1 := HCL.out.rise i hil
        have h2 := HCL.out.below i hil
        have h3 := Ln.rise_len h1 (m := n) h2
        omega
      have hprev : 0 < i → ∃ b'' o'' c'' x, (∀ W, Below w2.heap.size w2 W → W.cell? ⟨bv, ov + (i - 1), none⟩ = some (.slice (some ⟨b'', o'', none⟩) (L.getD (i - 1) []).length c'') ∧ W.cell? ⟨b'', o'', none⟩ = some (.int .i64 x)) ∧ b'' < w2.heap.size ∧ x < ((L[i].getD 0 0 : Nat) : Int) ∧ 0 < (L.getD (i - 1) []).length := fun h0 => by
        obtain ⟨A'', c'', hv2, hr2⟩ := HROW.out (i - 1) (by omega)
        have hne2 := HCL.out.ne (i - 1) (by omega)
        obtain ⟨b2, o2, rfl, hb2, hc2⟩ := hr2.2 (by omega)
        have hx := hc2 0 (by omega)
        have hg : L.getD (i - 1) [] = L[i - 1] := by rw [List.getD_eq_getElem?_getD, List.getElem?_eq_getElem (by omega), Option.getD_some]
        have hlt := HCL.out.firsts (i - 1) i (by omega) hil hne2 hneO (by omega)
        have hg0 : L[i].getD 0 0 = L[i][0] := by rw [List.getD_eq_getElem?_getD, List.getElem?_eq_getElem hneO, Option.getD_some]
        rw [hg, hg0]
        refine ⟨b2, o2, c'', (L[i - 1][0] : Nat), fun W hb => ⟨(hb.cell (p := ⟨bv, ov + (i - 1), none⟩) hbv).trans ((HCV.out (i - 1) (by omega)).trans hv2), ?_⟩, hb2, by omega, hne2⟩
        have := (hb.cell (p := ⟨b2, o2 + 0, none⟩) hb2).trans hx
        rw [Nat.add_zero] at this
        rw [this]
        simp [nlist, hne2]
      have hcnt : (Ln.fxK L i 0).length ≤ 14 := by
        have := Ln.fxK_le HCL.out i 0
        omega
      have hii : (i : Int) < (L.length : Int) := by omega
      have hi0 : (0 : Int) ≤ (i : Int) := Int.natCast_nonneg _
      obtain ⟨li, hli, ev, HCLL, hb14, hne, HPREV, HIDX, HNEW, HSTEP, HRISE, HLOW, HNEXT⟩ : ∃ li, Hid (L[i] = li) ∧ wr.cell? ⟨bv, ov + i, none⟩ = some (.slice (some ⟨bl, ol, none⟩) li.length c') ∧ Hid (∀ k, k < li.length → w2.cell? ⟨bl, ol + k, none⟩ = (nlist li)[k]?) ∧ li.length ≤ 14 ∧ 0 < li.length ∧
          Hid (0 < i → ∃ b'' o'' c'' x, (∀ W, Below w2.heap.size w2 W → W.cell? ⟨bv, ov + (i - 1), none⟩ = some (.slice (some ⟨b'', o'', none⟩) (L.getD (i - 1) []).length c'') ∧ W.cell? ⟨b'', o'', none⟩ = some (.int .i64 x)) ∧ b'' < w2.heap.size ∧ x < ((li.getD 0 0 : Nat) : Int) ∧ 0 < (L.getD (i - 1) []).length) ∧
          Hid (∀ k (h : k < li.length), ix li[k] = i) ∧ Hid (∀ k (h : k < li.length), li[k] ∉ Ln.fxK L i k) ∧ Hid (∀ k (h : k < li.length), Ln.fxK L i (k + 1) = Ln.fxK L i k ++ [li[k]]) ∧ Hid (∀ k (h : k + 1 < li.length), li[k] < li[k + 1]) ∧ Hid (∀ k (h : k < li.length), li[k] < n) ∧ Hid (Ln.fxK L i li.length = Ln.fxK L (i + 1) 0) :=
        ⟨L[i], Lib.hid rfl, evO, Lib.hid (fun k h => hcl k (by omega)), hb14O, hneO, Lib.hid hprev, Lib.hid (fun k h => HCL.out.idx i hil _ (List.getElem_mem h)), Lib.hid (fun k h => Ln.fxK_new HCL.out hil h), Lib.hid (fun k h => Ln.fxK_step hil h),
          Lib.hid (fun k h => List.pairwise_iff_getElem.1 (HCL.out.rise i hil) k (k + 1) (by omega) h (by omega)), Lib.hid (fun k h => HCL.out.below i hil _ (List.getElem_mem h)), Lib.hid (Ln.fxK_next hil)⟩
      clear hvi hvi2 hri hcl hprev evO hb14O hneO
      go_wp2_with fail
      go_loopw [56] (fun K wq => ∃ k : Nat, k ≤ li.length ∧ K = .int .i64 k ∧ Ln.FxM wq mb L ix i k ∧ mb < wq.heap.size ∧ Below w2.heap.size w2 wq)
        (fun K _ => li.length - (intOf K).toNat)
      case atStart => exact ⟨0, Nat.zero_le _, rfl, hFx, hml, hB⟩
      case round =>
        clear hFx hml hB ev
        obtain ⟨k, hk, rfl, hFx, hml, hB⟩ := hrel
        by_cases hkl : k < li.length
        · have hel0 := HCLL.out k hkl
          have el : wr.cell? ⟨bl, ol + k, none⟩ = some (.int .i64 (li[k] : Nat)) := ((hB.cell (p := ⟨bl, ol + k, none⟩) hbl).trans hel0).trans (by simp [nlist, hkl])
          have hx := HLOW.out k hkl
          have hst := HSTEP.out k hkl
          have hnw := HNEW.out k hkl
          have hix := HIDX.out k hkl
          have hcn : (Ln.fxK L i k).length ≤ 14 := by
            have := Ln.fxK_le HCL.out i k
            omega
          have hgk : k = 0 → li.getD 0 0 = li[k] := fun h => by subst h; rw [List.getD_eq_getElem?_getD, List.getElem?_eq_getElem hkl, Option.getD_some]
          have hpv : ∀ j : Nat, k = j + 1 → ∃ z : Nat, wr.cell? ⟨bl, ol + j, none⟩ = some (.int .i64 (z : Int)) ∧ z < li[k] := fun j h => by
            subst h
            exact ⟨li[j], ((hB.cell (p := ⟨bl, ol + j, none⟩) hbl).trans (HCLL.out j (by omega))).trans (by simp [nlist, show j < li.length by omega]), HRISE.out j hkl⟩
          obtain ⟨x, hxx⟩ : ∃ x, li[k] = x := ⟨_, rfl⟩
          rw [hxx] at el hx hst hnw hix hgk hpv
          have hown := hFx.own
          have hsz := hFx.size
          have hkey := keyOf_int_mk (P := Try.prog) Try.underlying3 (wf_small (r := (x : Int)) (by omega) (by omega))
          have hval := plainElem_int (H := Unit) (P := Try.prog) (e := 3) Try.underlying3 (wf_small (r := (i : Int)) (by omega) (by omega))
          have hBs : mb < wr.heap.size := hml
          have hmb2 : w2.heap.size ≤ mb := Nat.le_of_eq HMB.out
          have HST := Lib.hid hst
          have HNW := Lib.hid hnw
          have HIX := Lib.hid hix
          have HSZ := Lib.hid hsz
          have HVL := Lib.hid hval
          have hx0 : (0 : Int) ≤ (x : Int) := Int.natCast_nonneg _
          have hk0 : (0 : Int) ≤ (k : Int) := Int.natCast_nonneg _
          have hki : (k : Int) < (li.length : Int) := by omega
          have hfin : ∀ W3, IsMp W3 mb ((Ln.fxK L i k).length + 1) ((Ln.fxD ix (Ln.fxK L i k)).put (.int .i64 (x : Int)) (.lit (.int .i64 (i : Int)))) → wr.grownBy W3 (some mb) → Ln.FxM W3 mb L ix i (k + 1) ∧ mb < W3.heap.size ∧ Below w2.heap.size w2 W3 := fun W3 h1 h2 => by
            refine ⟨⟨?_, ?_⟩, Nat.lt_of_lt_of_le hBs h2.size, hB.grown h2 hB.size (fun j e => by cases e; exact hmb2)⟩
            · rw [HST.out, Ln.fxD_snoc, HIX.out, List.length_append]
              exact h1
            · rw [HST.out, Ln.fxD_size HNW.out, HSZ.out, List.length_append]
              rfl
          have HFIN := Lib.hid hfin
          have hcase : (0 < k) ∨ (k = 0 ∧ i = 0) ∨ (k = 0 ∧ 0 < i) := by omega
          have HB := Lib.hid hB
          clear hxx hst hnw hix hsz hval hel0 hFx hfin
          rcases hcase with h0 | ⟨h0, h1⟩ | ⟨h0, h1⟩
          · obtain ⟨j, rfl⟩ : ∃ j, k = j + 1 := ⟨k - 1, by omega⟩
            obtain ⟨z, p1, p2⟩ := hpv j rfl
            have hzx : (z : Int) < (x : Int) := by omega
            have hj0 : (0 : Int) ≤ (j : Int) := Int.natCast_nonneg _
            have hjl : (j : Int) < (li.length : Int) := by omega
            have hcast : ((j + 1 : Nat) : Int) - 1 = (j : Int) := by omega
            have hpos1 : (0 : Int) < (j : Int) + 1 := by omega
            have hj1 : (j : Int) + 1 < (li.length : Int) := by omega
            clear hpv hgk p2 hB
            rcases (show ¬ 0 < i ∨ 0 < i by omega) with hi9 | hi9
            all_goals
              go_wp2_with (at_mapUpdate; refine wpList_mapUpdate_own _ rfl _ _ _ 39 rfl 3 _ keyedI Try.underlying39 (plainElem Try.prog 3) mb _ _ rfl hown (by unfold maxLen; omega) (.int .i64 (x : Int)) (.int .i64 (i : Int)) (.int .i64 (x : Int)) rfl rfl hkey (.lit (.int .i64 (i : Int))) [] HVL.out ?_; intro W3 hM3 hg3)
              have REL := Lib.hid (HFIN.out W3 hM3 hg3)
              clear hM3 hg3
              go_roundw
              case rel => exact ⟨j + 1 + 1, by omega, by go_num, REL.out.1, REL.out.2.1, REL.out.2.2⟩
              case measure => simp [intOf]; omega
          · subst h0
            rw [Nat.add_zero] at el
            have hi9 : ¬ 0 < i := by omega
            have hl00 : 0 < li.length := by omega
            clear hpv hgk hB h1
            go_wp2_with (at_mapUpdate; refine wpList_mapUpdate_own _ rfl _ _ _ 39 rfl 3 _ keyedI Try.underlying39 (plainElem Try.prog 3) mb _ _ rfl hown (by unfold maxLen; omega) (.int .i64 (x : Int)) (.int .i64 (i : Int)) (.int .i64 (x : Int)) rfl rfl hkey (.lit (.int .i64 (i : Int))) [] HVL.out ?_; intro W3 hM3 hg3)
            have REL := Lib.hid (HFIN.out W3 hM3 hg3)
            clear hM3 hg3
            go_roundw
            case rel => exact ⟨1, by omega, by go_num, REL.out.1, REL.out.2.1, REL.out.2.2⟩
            case measure => simp [intOf]; omega
          · subst h0
            rw [Nat.add_zero] at el
            obtain ⟨b'', o'', c'', z, hW, hbb, hzz, hlen0⟩ := HPREV.out h1
            obtain ⟨v1, v2⟩ := hW wr hB
            have hzx : z < (x : Int) := by rw [← hgk rfl]; exact hzz
            obtain ⟨m, hm⟩ : ∃ m, (L.getD (i - 1) []).length = m := ⟨_, rfl⟩
            rw [hm] at v1 hlen0
            have hi9 : 0 < i := h1
            have hi8 : (1 : Int) ≤ (i : Int) := by omega
            have hi7 : (i : Int) - 1 < (L.length : Int) := by omega
            have hi6 : ((i : Int) - 1).toNat = i - 1 := by omega
            have hl00 : 0 < li.length := by omega
            clear hpv hgk hB hW hm hzz
            go_wp2_with (at_mapUpdate; refine wpList_mapUpdate_own _ rfl _ _ _ 39 rfl 3 _ keyedI Try.underlying39 (plainElem Try.prog 3) mb _ _ rfl hown (by unfold maxLen; omega) (.int .i64 (x : Int)) (.int .i64 (i : Int)) (.int .i64 (x : Int)) rfl rfl hkey (.lit (.int .i64 (i : Int))) [] HVL.out ?_; intro W3 hM3 hg3)
            have REL := Lib.hid (HFIN.out W3 hM3 hg3)
            clear hM3 hg3
            go_roundw
            case rel => exact ⟨1, by omega, by go_num, REL.out.1, REL.out.2.1, REL.out.2.2⟩
            case measure => simp [intOf]; omega
        · obtain rfl : k = li.length := by omega
          have hnx := HNEXT.out
          have hown := hFx.own
          have hsz := hFx.size
          rw [hnx] at hown hsz
          have REL := Lib.hid (And.intro hown (And.intro hsz (And.intro hml hB)))
          clear hown hsz hnx hFx hml hB
          go_wp2_with fail
          go_roundw
          case rel => exact ⟨i + 1, by omega, by go_num, ⟨REL.out.1, REL.out.2.1⟩, REL.out.2.2.1, REL.out.2.2.2⟩
          case measure => simp [intOf]; omega
    · obtain rfl : i = L.length := by omega
      have hown := hFx.own
      have hsz := hFx.size
      rw [Ln.fxK_end, HFL.out] at hown hsz
      obtain ⟨D, hD⟩ : ∃ D, Ln.fxD ix L.flatten = D := ⟨_, rfl⟩
      have hlook : ∀ x : Nat, x < n → Maps.has D (.int .i64 (x : Int)) = true ∧ D.atKey (.int .i64 (x : Int)) (.lit (.int .i64 0)) = .lit (.int .i64 (ix x : Int)) := fun x hx => by
        obtain ⟨j, hj, hm⟩ := HCL.out.all x hx
        have hxf : x ∈ L.flatten := List.mem_flatten.2 ⟨_, List.getElem_mem hj, hm⟩
        obtain ⟨_, h⟩ := Ln.fxD_spec ix L.flatten
        rw [← hD]
        exact ⟨by rw [(h x).1]; simpa using hxf, (h x).2 hxf _⟩
      rw [hD] at hown hsz
      have HLOOK := Lib.hid hlook
      have HSZ := Lib.hid hsz
      have s3 := s2.step hB
      have hM3 : IsMp wr mb n D := hown
      have hYb : ∀ W, Below w.heap.size w W → Rd W W.heap.size 1 A2 y.length (ints y) := fun W hb => (hY.below hb (Nat.le_refl _)).more hb.size
      have HY := Lib.hid hYb
      clear hown hsz hlook hFx hD hYb hB s2
      obtain ⟨c0, c1, cl⟩ := s3.cells
      go_wp2_with fail
      refine (HKP.out _ s3.rd (HY.out _ s3.bl)).mono ?_
      rintro e w4 ⟨rfl, hb4⟩
      have s4 := s3.step hb4
      have hM4 := hM3.below hb4 hml
      have hml4 : mb < w4.heap.size := Nat.lt_of_lt_of_le hml hb4.size
      clear c0 c1 cl s3 hM3 hml hb4
      obtain ⟨c0, c1, cl⟩ := s4.cells
      have hkr : (kr = false) ∨ (kr = true ∧ ke = 0) := by
        rcases kr with _ | _
        · exact .inl rfl
        · exact .inr ⟨rfl, (HKE.out rfl).1⟩
      have S4 := Lib.hid s4
      have HM4 := Lib.hid hM4
      clear s4 hM4
      rcases hkr with rfl | ⟨rfl, rfl⟩
      · go_wp2_with fail
        clear c0 c1
        go_loopw [110] (fun I wr => ∃ a : Nat, a ≤ n ∧ I = .int .i64 a ∧ Below w4.heap.size w4 wr)
          (fun I _ => n - (intOf I).toNat)
        case atStart => exact ⟨0, Nat.zero_le _, rfl, Below.refl _ _⟩
        case round =>
          obtain ⟨a, ha, rfl, hB⟩ := hrel
          have s5 := S4.out.step hB
          by_cases han : a < n
          · obtain ⟨c0, c1, cl5⟩ := s5.cells
            go_wp2_with fail
            clear c0 c1 cl5 s5
            go_loopw [115] (fun I wr => ∃ b : Nat, b ≤ n ∧ I = .int .i64 b ∧ Below w4.heap.size w4 wr)
              (fun I _ => n - (intOf I).toNat)
            case atStart => exact ⟨0, Nat.zero_le _, rfl, hB⟩
            case round =>
              clear hB
              obtain ⟨b, hb, rfl, hB⟩ := hrel
              have s5 := S4.out.step hB
              obtain ⟨c0, c1, cl5⟩ := s5.cells
              by_cases hbn : b < n
              · have hmt := HMT.out a b
                have hsm := HCL.out.same a b han hbn
                have hcall := HBT.out a b han hbn
                have hvl := HVAL.out a b han hbn
                obtain ⟨⟨l1, l2⟩, hl1⟩ : ∃ q, Ln.lowF 0 (Ln.dF (n : Int) bs b a) = q := ⟨_, rfl⟩
                obtain ⟨⟨h1, h2⟩, hh1⟩ : ∃ q, Ln.highF 0 (Ln.dF (n : Int) bs a b) = q := ⟨_, rfl⟩
                simp only [hl1, hh1] at hmt hcall hvl
                simp only [spanV] at hcall
                obtain ⟨la1, la2⟩ := HLOOK.out a han
                obtain ⟨lb1, lb2⟩ := HLOOK.out b hbn
                have ka := keyOf_int_mk (P := Try.prog) Try.underlying3 (wf_small (r := (a : Int)) (by omega) (by omega))
                have kb := keyOf_int_mk (P := Try.prog) Try.underlying3 (wf_small (r := (b : Int)) (by omega) (by omega))
                have hMr := HM4.out.below hB hml4
                have hml5 : mb < wr.heap.size := Nat.lt_of_lt_of_le hml4 hB.size
                have LA1 := Lib.hid la1
                have LA2 := Lib.hid la2
                have LB1 := Lib.hid lb1
                have LB2 := Lib.hid lb2
                have HCALL := Lib.hid hcall
                obtain ⟨ia, hia⟩ : ∃ x, ix a = x := ⟨_, rfl⟩
                obtain ⟨ib, hib⟩ : ∃ x, ix b = x := ⟨_, rfl⟩
                rw [hia] at LA2 hsm
                rw [hib] at LB2 hsm
                have hcs : (Ln.meet bs n a b = false ∧ (l2 = false ∨ (l2 = true ∧ h2 = false) ∨ (l2 = true ∧ h2 = true ∧ l1 ≠ h1)) ∧ ia ≠ ib) ∨ (Ln.meet bs n a b = true ∧ l2 = true ∧ h2 = true ∧ l1 = h1 ∧ ia = ib) := by
                  rcases hq : Ln.meet bs n a b with _ | _
                  · refine .inl ⟨rfl, ?_, fun e => by rw [hsm.2 e] at hq; cases hq⟩
                    rw [hq] at hmt
                    rcases l2 with _ | _
                    · exact .inl rfl
                    · rcases h2 with _ | _
                      · exact .inr (.inl ⟨rfl, rfl⟩)
                      · refine .inr (.inr ⟨rfl, rfl, fun e => ?_⟩)
                        subst e
                        simp at hmt
                  · refine .inr ⟨rfl, ?_⟩
                    rw [hq] at hmt
                    have := hmt.symm
                    simp only [Bool.and_eq_true, decide_eq_true_eq] at this
                    exact ⟨this.1.1, this.1.2, this.2, hsm.1 hq⟩
                clear hmt hsm la1 la2 lb1 lb2 hcall hl1 hh1 hia hib
                rcases hcs with ⟨hq, hc, hne⟩ | ⟨hq, rfl, rfl, rfl, rfl⟩
                · have hnei : ((ia : Int) == (ib : Int)) = false := by rw [beq_eq_false_iff_ne]; omega
                  clear hvl hq
                  rcases hc with rfl | ⟨rfl, rfl⟩ | ⟨rfl, rfl, hll⟩
                  · go_wp2_with fail
                    refine (HCALL.out _ s5.rd).mono ?_
                    rintro e w5 ⟨rfl, hb5⟩
                    have hA5 := (Below.refl w5.heap.size w5).alloc (Nat.le_refl _) (.cells #[.int .i64 l1, .int .i64 h1, .bool false, .bool h2] 43)
                    have hM6 : IsMp (w5.alloc (.cells #[.int .i64 l1, .int .i64 h1, .bool false, .bool h2] 43)) mb n D := (hMr.below hb5 hml5).below hA5 (Nat.lt_of_lt_of_le hml5 hb5.size)
                    have hB6 := (hB.trans (hb5.mono hB.size)).trans (hA5.mono (Nat.le_trans hB.size hb5.size))
                    have HB6 := Lib.hid hB6
                    clear hB hMr hB6 hA5 c0 c1 s5
                    go_wp2_with (first
                      | (at_lookup; refine wpList_lookup_own_ok_int _ rfl _ _ 39 rfl 3 3 .i64 keyedI Try.underlying39 Try.underlying3 (zeroIn _) mb _ D rfl hM6 (.int .i64 (a : Int)) (.int .i64 (a : Int)) rfl ka ?_; intro c hat hwc; rw [LA2.out] at hat; injection hat with hat; injection hat with _ hat; subst hat; rw [LA1.out])
                      | (at_lookup; refine wpList_lookup_own_ok_int _ rfl _ _ 39 rfl 3 3 .i64 keyedI Try.underlying39 Try.underlying3 (zeroIn _) mb _ D rfl hM6 (.int .i64 (b : Int)) (.int .i64 (b : Int)) rfl kb ?_; intro c hat hwc; rw [LB2.out] at hat; injection hat with hat; injection hat with _ hat; subst hat; rw [LB1.out]))
                    go_quiet (fail)
                    go_wp2_with fail
                    go_roundw
                    case rel => exact ⟨b + 1, by omega, by go_num, below_drewN HB6.out _⟩
                    case measure => simp [intOf]; omega
                  · go_wp2_with fail
                    refine (HCALL.out _ s5.rd).mono ?_
                    rintro e w5 ⟨rfl, hb5⟩
                    have hA5 := (Below.refl w5.heap.size w5).alloc (Nat.le_refl _) (.cells #[.int .i64 l1, .int .i64 h1, .bool true, .bool false] 43)
                    have hM6 : IsMp (w5.alloc (.cells #[.int .i64 l1, .int .i64 h1, .bool true, .bool false] 43)) mb n D := (hMr.below hb5 hml5).below hA5 (Nat.lt_of_lt_of_le hml5 hb5.size)
                    have hB6 := (hB.trans (hb5.mono hB.size)).trans (hA5.mono (Nat.le_trans hB.size hb5.size))
                    have HB6 := Lib.hid hB6
                    clear hB hMr hB6 hA5 c0 c1 s5
                    go_wp2_with (first
                      | (at_lookup; refine wpList_lookup_own_ok_int _ rfl _ _ 39 rfl 3 3 .i64 keyedI Try.underlying39 Try.underlying3 (zeroIn _) mb _ D rfl hM6 (.int .i64 (a : Int)) (.int .i64 (a : Int)) rfl ka ?_; intro c hat hwc; rw [LA2.out] at hat; injection hat with hat; injection hat with _ hat; subst hat; rw [LA1.out])
                      | (at_lookup; refine wpList_lookup_own_ok_int _ rfl _ _ 39 rfl 3 3 .i64 keyedI Try.underlying39 Try.underlying3 (zeroIn _) mb _ D rfl hM6 (.int .i64 (b : Int)) (.int .i64 (b : Int)) rfl kb ?_; intro c hat hwc; rw [LB2.out] at hat; injection hat with hat; injection hat with _ hat; subst hat; rw [LB1.out]))
                    go_quiet (fail)
                    go_wp2_with fail
                    go_roundw
                    case rel => exact ⟨b + 1, by omega, by go_num, below_drewN HB6.out _⟩
                    case measure => simp [intOf]; omega
                  · have hle : (l1 == h1) = false := by simp; exact hll
                    have hle' : decide (l1 = h1) = false := decide_eq_false hll
                    clear hll
                    go_wp2_with fail
                    refine (HCALL.out _ s5.rd).mono ?_
                    rintro e w5 ⟨rfl, hb5⟩
                    have hA5 := (Below.refl w5.heap.size w5).alloc (Nat.le_refl _) (.cells #[.int .i64 l1, .int .i64 h1, .bool true, .bool true] 43)
                    have hM6 : IsMp (w5.alloc (.cells #[.int .i64 l1, .int .i64 h1, .bool true, .bool true] 43)) mb n D := (hMr.below hb5 hml5).below hA5 (Nat.lt_of_lt_of_le hml5 hb5.size)
                    have hB6 := (hB.trans (hb5.mono hB.size)).trans (hA5.mono (Nat.le_trans hB.size hb5.size))
                    have HB6 := Lib.hid hB6
                    clear hB hMr hB6 hA5 c0 c1 s5
                    go_wp2_with (first
                      | (at_lookup; refine wpList_lookup_own_ok_int _ rfl _ _ 39 rfl 3 3 .i64 keyedI Try.underlying39 Try.underlying3 (zeroIn _) mb _ D rfl hM6 (.int .i64 (a : Int)) (.int .i64 (a : Int)) rfl ka ?_; intro c hat hwc; rw [LA2.out] at hat; injection hat with hat; injection hat with _ hat; subst hat; rw [LA1.out])
                      | (at_lookup; refine wpList_lookup_own_ok_int _ rfl _ _ 39 rfl 3 3 .i64 keyedI Try.underlying39 Try.underlying3 (zeroIn _) mb _ D rfl hM6 (.int .i64 (b : Int)) (.int .i64 (b : Int)) rfl kb ?_; intro c hat hwc; rw [LB2.out] at hat; injection hat with hat; injection hat with _ hat; subst hat; rw [LB1.out]))
                    go_quiet (fail)
                    go_wp2_with fail
                    go_roundw
                    case rel => exact ⟨b + 1, by omega, by go_num, below_drewN HB6.out _⟩
                    case measure => simp [intOf]; omega
                · have hle : (l1 == l1) = true := by simp
                  have hii : ((ia : Int) == (ia : Int)) = true := by simp
                  clear hvl hq
                  go_wp2_with fail
                  refine (HCALL.out _ s5.rd).mono ?_
                  rintro e w5 ⟨rfl, hb5⟩
                  have hA5 := (Below.refl w5.heap.size w5).alloc (Nat.le_refl _) (.cells #[.int .i64 l1, .int .i64 l1, .bool true, .bool true] 43)
                  have hM6 : IsMp (w5.alloc (.cells #[.int .i64 l1, .int .i64 l1, .bool true, .bool true] 43)) mb n D := (hMr.below hb5 hml5).below hA5 (Nat.lt_of_lt_of_le hml5 hb5.size)
                  have hB6 := (hB.trans (hb5.mono hB.size)).trans (hA5.mono (Nat.le_trans hB.size hb5.size))
                  have HB6 := Lib.hid hB6
                  clear hB hMr hB6 hA5 c0 c1 s5
                  go_wp2_with (first
                    | (at_lookup; refine wpList_lookup_own_ok_int _ rfl _ _ 39 rfl 3 3 .i64 keyedI Try.underlying39 Try.underlying3 (zeroIn _) mb _ D rfl hM6 (.int .i64 (a : Int)) (.int .i64 (a : Int)) rfl ka ?_; intro c hat hwc; rw [LA2.out] at hat; injection hat with hat; injection hat with _ hat; subst hat; rw [LA1.out])
                    | (at_lookup; refine wpList_lookup_own_ok_int _ rfl _ _ 39 rfl 3 3 .i64 keyedI Try.underlying39 Try.underlying3 (zeroIn _) mb _ D rfl hM6 (.int .i64 (b : Int)) (.int .i64 (b : Int)) rfl kb ?_; intro c hat hwc; rw [LB2.out] at hat; injection hat with hat; injection hat with _ hat; subst hat; rw [LB1.out]))
                  go_quiet (fail)
                  go_wp2_with fail
                  go_roundw
                  case rel => exact ⟨b + 1, by omega, by go_num, below_drewN HB6.out _⟩
                  case measure => simp [intOf]; omega
              · obtain rfl : b = n := by omega
                go_wp2_with fail
                go_roundw
                case rel => exact ⟨a + 1, by omega, by go_num, hB⟩
                case measure => simp [intOf]; omega
          · obtain rfl : a = n := by omega
            obtain ⟨c0, c1, cl5⟩ := s5.cells
            go_wp2_with fail
            refine (alive_any _).mono ?_
            rintro e w6 ⟨rfl, hb6⟩
            have s6 := s5.step hb6
            have hM6 : IsMp w6 mb _ D := (HM4.out.below hB hml4).below hb6 (Nat.lt_of_lt_of_le hml4 hB.size)
            have hlen := fun ty => hM6.len Try.underlying39 ty
            rw [HSZ.out] at hlen
            clear c0 c1 cl5
            obtain ⟨c0, c1, cl6⟩ := s6.cells
            go_wp2_with fail
            go_ret
            exact ⟨rfl, s6.bl⟩
      · go_wp2_with fail
        clear c0 c1
        go_loopw [110] (fun I wr => ∃ a : Nat, a ≤ n ∧ I = .int .i64 a ∧ Below w4.heap.size w4 wr)
          (fun I _ => n - (intOf I).toNat)
        case atStart => exact ⟨0, Nat.zero_le _, rfl, Below.refl _ _⟩
        case round =>
          obtain ⟨a, ha, rfl, hB⟩ := hrel
          have s5 := S4.out.step hB
          by_cases han : a < n
          · obtain ⟨c0, c1, cl5⟩ := s5.cells
            go_wp2_with fail
            clear c0 c1 cl5 s5
            go_loopw [115] (fun I wr => ∃ b : Nat, b ≤ n ∧ I = .int .i64 b ∧ Below w4.heap.size w4 wr)
              (fun I _ => n - (intOf I).toNat)
            case atStart => exact ⟨0, Nat.zero_le _, rfl, hB⟩
            case round =>
              clear hB
              obtain ⟨b, hb, rfl, hB⟩ := hrel
              have s5 := S4.out.step hB
              obtain ⟨c0, c1, cl5⟩ := s5.cells
              by_cases hbn : b < n
              · have hmt := HMT.out a b
                have hsm := HCL.out.same a b han hbn
                have hcall := HBT.out a b han hbn
                have hvl := HVAL.out a b han hbn
                obtain ⟨⟨l1, l2⟩, hl1⟩ : ∃ q, Ln.lowF 0 (Ln.dF (n : Int) bs b a) = q := ⟨_, rfl⟩
                obtain ⟨⟨h1, h2⟩, hh1⟩ : ∃ q, Ln.highF 0 (Ln.dF (n : Int) bs a b) = q := ⟨_, rfl⟩
                simp only [hl1, hh1] at hmt hcall hvl
                simp only [spanV] at hcall
                obtain ⟨la1, la2⟩ := HLOOK.out a han
                obtain ⟨lb1, lb2⟩ := HLOOK.out b hbn
                have ka := keyOf_int_mk (P := Try.prog) Try.underlying3 (wf_small (r := (a : Int)) (by omega) (by omega))
                have kb := keyOf_int_mk (P := Try.prog) Try.underlying3 (wf_small (r := (b : Int)) (by omega) (by omega))
                have hMr := HM4.out.below hB hml4
                have hml5 : mb < wr.heap.size := Nat.lt_of_lt_of_le hml4 hB.size
                have LA1 := Lib.hid la1
                have LA2 := Lib.hid la2
                have LB1 := Lib.hid lb1
                have LB2 := Lib.hid lb2
                have HCALL := Lib.hid hcall
                obtain ⟨ia, hia⟩ : ∃ x, ix a = x := ⟨_, rfl⟩
                obtain ⟨ib, hib⟩ : ∃ x, ix b = x := ⟨_, rfl⟩
                rw [hia] at LA2 hsm
                rw [hib] at LB2 hsm
                have hcs : (Ln.meet bs n a b = false ∧ (l2 = false ∨ (l2 = true ∧ h2 = false) ∨ (l2 = true ∧ h2 = true ∧ l1 ≠ h1)) ∧ ia ≠ ib) ∨ (Ln.meet bs n a b = true ∧ l2 = true ∧ h2 = true ∧ l1 = h1 ∧ ia = ib) := by
                  rcases hq : Ln.meet bs n a b with _ | _
                  · refine .inl ⟨rfl, ?_, fun e => by rw [hsm.2 e] at hq; cases hq⟩
                    rw [hq] at hmt
                    rcases l2 with _ | _
                    · exact .inl rfl
                    · rcases h2 with _ | _
                      · exact .inr (.inl ⟨rfl, rfl⟩)
                      · refine .inr (.inr ⟨rfl, rfl, fun e => ?_⟩)
                        subst e
                        simp at hmt
                  · refine .inr ⟨rfl, ?_⟩
                    rw [hq] at hmt
                    have := hmt.symm
                    simp only [Bool.and_eq_true, decide_eq_true_eq] at this
                    exact ⟨this.1.1, this.1.2, this.2, hsm.1 hq⟩
                clear hmt hsm la1 la2 lb1 lb2 hcall hl1 hh1 hia hib
                rcases hcs with ⟨hq, hc, hne⟩ | ⟨hq, rfl, rfl, rfl, rfl⟩
                · have hnei : ((ia : Int) == (ib : Int)) = false := by rw [beq_eq_false_iff_ne]; omega
                  clear hvl hq
                  rcases hc with rfl | ⟨rfl, rfl⟩ | ⟨rfl, rfl, hll⟩
                  · go_wp2_with fail
                    refine (HCALL.out _ s5.rd).mono ?_
                    rintro e w5 ⟨rfl, hb5⟩
                    have hA5 := (Below.refl w5.heap.size w5).alloc (Nat.le_refl _) (.cells #[.int .i64 l1, .int .i64 h1, .bool false, .bool h2] 43)
                    have hM6 : IsMp (w5.alloc (.cells #[.int .i64 l1, .int .i64 h1, .bool false, .bool h2] 43)) mb n D := (hMr.below hb5 hml5).below hA5 (Nat.lt_of_lt_of_le hml5 hb5.size)
                    have hB6 := (hB.trans (hb5.mono hB.size)).trans (hA5.mono (Nat.le_trans hB.size hb5.size))
                    have HB6 := Lib.hid hB6
                    clear hB hMr hB6 hA5 c0 c1 s5
                    go_wp2_with (first
                      | (at_lookup; refine wpList_lookup_own_ok_int _ rfl _ _ 39 rfl 3 3 .i64 keyedI Try.underlying39 Try.underlying3 (zeroIn _) mb _ D rfl hM6 (.int .i64 (a : Int)) (.int .i64 (a : Int)) rfl ka ?_; intro c hat hwc; rw [LA2.out] at hat; injection hat with hat; injection hat with _ hat; subst hat; rw [LA1.out])
                      | (at_lookup; refine wpList_lookup_own_ok_int _ rfl _ _ 39 rfl 3 3 .i64 keyedI Try.underlying39 Try.underlying3 (zeroIn _) mb _ D rfl hM6 (.int .i64 (b : Int)) (.int .i64 (b : Int)) rfl kb ?_; intro c hat hwc; rw [LB2.out] at hat; injection hat with hat; injection hat with _ hat; subst hat; rw [LB1.out]))
                    go_quiet (fail)
                    go_wp2_with fail
                    go_roundw
                    case rel => exact ⟨b + 1, by omega, by go_num, below_drewN HB6.out _⟩
                    case measure => simp [intOf]; omega
                  · go_wp2_with fail
                    refine (HCALL.out _ s5.rd).mono ?_
                    rintro e w5 ⟨rfl, hb5⟩
                    have hA5 := (Below.refl w5.heap.size w5).alloc (Nat.le_refl _) (.cells #[.int .i64 l1, .int .i64 h1, .bool true, .bool false] 43)
                    have hM6 : IsMp (w5.alloc (.cells #[.int .i64 l1, .int .i64 h1, .bool true, .bool false] 43)) mb n D := (hMr.below hb5 hml5).below hA5 (Nat.lt_of_lt_of_le hml5 hb5.size)
                    have hB6 := (hB.trans (hb5.mono hB.size)).trans (hA5.mono (Nat.le_trans hB.size hb5.size))
                    have HB6 := Lib.hid hB6
                    clear hB hMr hB6 hA5 c0 c1 s5
                    go_wp2_with (first
                      | (at_lookup; refine wpList_lookup_own_ok_int _ rfl _ _ 39 rfl 3 3 .i64 keyedI Try.underlying39 Try.underlying3 (zeroIn _) mb _ D rfl hM6 (.int .i64 (a : Int)) (.int .i64 (a : Int)) rfl ka ?_; intro c hat hwc; rw [LA2.out] at hat; injection hat with hat; injection hat with _ hat; subst hat; rw [LA1.out])
                      | (at_lookup; refine wpList_lookup_own_ok_int _ rfl _ _ 39 rfl 3 3 .i64 keyedI Try.underlying39 Try.underlying3 (zeroIn _) mb _ D rfl hM6 (.int .i64 (b : Int)) (.int .i64 (b : Int)) rfl kb ?_; intro c hat hwc; rw [LB2.out] at hat; injection hat with hat; injection hat with _ hat; subst hat; rw [LB1.out]))
                    go_quiet (fail)
                    go_wp2_with fail
                    go_roundw
                    case rel => exact ⟨b + 1, by omega, by go_num, below_drewN HB6.out _⟩
                    case measure => simp [intOf]; omega
                  · have hle : (l1 == h1) = false := by simp; exact hll
                    have hle' : decide (l1 = h1) = false := decide_eq_false hll
                    clear hll
                    go_wp2_with fail
                    refine (HCALL.out _ s5.rd).mono ?_
                    rintro e w5 ⟨rfl, hb5⟩
                    have hA5 := (Below.refl w5.heap.size w5).alloc (Nat.le_refl _) (.cells #[.int .i64 l1, .int .i64 h1, .bool true, .bool true] 43)
                    have hM6 : IsMp (w5.alloc (.cells #[.int .i64 l1, .int .i64 h1, .bool true, .bool true] 43)) mb n D := (hMr.below hb5 hml5).below hA5 (Nat.lt_of_lt_of_le hml5 hb5.size)
                    have hB6 := (hB.trans (hb5.mono hB.size)).trans (hA5.mono (Nat.le_trans hB.size hb5.size))
                    have HB6 := Lib.hid hB6
                    clear hB hMr hB6 hA5 c0 c1 s5
                    go_wp2_with (first
                      | (at_lookup; refine wpList_lookup_own_ok_int _ rfl _ _ 39 rfl 3 3 .i64 keyedI Try.underlying39 Try.underlying3 (zeroIn _) mb _ D rfl hM6 (.int .i64 (a : Int)) (.int .i64 (a : Int)) rfl ka ?_; intro c hat hwc; rw [LA2.out] at hat; injection hat with hat; injection hat with _ hat; subst hat; rw [LA1.out])
                      | (at_lookup; refine wpList_lookup_own_ok_int _ rfl _ _ 39 rfl 3 3 .i64 keyedI Try.underlying39 Try.underlying3 (zeroIn _) mb _ D rfl hM6 (.int .i64 (b : Int)) (.int .i64 (b : Int)) rfl kb ?_; intro c hat hwc; rw [LB2.out] at hat; injection hat with hat; injection hat with _ hat; subst hat; rw [LB1.out]))
                    go_quiet (fail)
                    go_wp2_with fail
                    go_roundw
                    case rel => exact ⟨b + 1, by omega, by go_num, below_drewN HB6.out _⟩
                    case measure => simp [intOf]; omega
                · have hle : (l1 == l1) = true := by simp
                  have hii : ((ia : Int) == (ia : Int)) = true := by simp
                  have hal : a < y.length := by have := (HKE.out trivial).2; omega
                  have hbl : b < y.length := by have := (HKE.out trivial).2; omega
                  have hy4 := (HVAL.out a b han hbn trivial hq)
                  obtain ⟨by_, oy, rfl, hby, ea⟩ := Rd.one (HY.out _ (S4.out.bl.trans (hB.mono S4.out.bl.size))) hal
                  obtain ⟨by2, oy2, e2, hby2, eb⟩ := Rd.one (HY.out _ (S4.out.bl.trans (hB.mono S4.out.bl.size))) hbl
                  cases e2
                  have hsub := hvl trivial hq
                  rw [Ln.gt_eq hbl, Ln.gt_eq hal] at hsub
                  have hsm1 := HSML.out trivial a (by omega)
                  have hsm2 := HSML.out trivial b (by omega)
                  obtain ⟨ya, hya⟩ : ∃ q, y[a] = q := ⟨_, rfl⟩
                  obtain ⟨yb, hyb⟩ : ∃ q, y[b] = q := ⟨_, rfl⟩
                  rw [hya] at ea hsub hsm1
                  rw [hyb] at eb hsub hsm2
                  have hw1 : IntKind.i64.wrap (yb - ya) = yb - ya := IntWalk.i64_in _ (by omega)
                  have hne1 : (yb - ya != l1) = false := by simp; exact hsub
                  have hai : (a : Int) < (y.length : Int) := by omega
                  have hbi : (b : Int) < (y.length : Int) := by omega
                  have ha0 : (0 : Int) ≤ (a : Int) := Int.natCast_nonneg _
                  have hb0 : (0 : Int) ≤ (b : Int) := Int.natCast_nonneg _
                  clear hya hyb hsub hy4
                  clear hvl hq
                  go_wp2_with fail
                  refine (HCALL.out _ s5.rd).mono ?_
                  rintro e w5 ⟨rfl, hb5⟩
                  have hA5 := (Below.refl w5.heap.size w5).alloc (Nat.le_refl _) (.cells #[.int .i64 l1, .int .i64 l1, .bool true, .bool true] 43)
                  have hM6 : IsMp (w5.alloc (.cells #[.int .i64 l1, .int .i64 l1, .bool true, .bool true] 43)) mb n D := (hMr.below hb5 hml5).below hA5 (Nat.lt_of_lt_of_le hml5 hb5.size)
                  have hB6 := (hB.trans (hb5.mono hB.size)).trans (hA5.mono (Nat.le_trans hB.size hb5.size))
                  have HB6 := Lib.hid hB6
                  have ea5 := (hb5.cell (p := ⟨by_, oy + a, none⟩) hby).trans ea
                  have eb5 := (hb5.cell (p := ⟨by_, oy + b, none⟩) hby2).trans eb
                  clear ea eb
                  have hby5 : by_ < w5.heap.size := Nat.lt_of_lt_of_le hby hb5.size
                  clear hB hMr hB6 hA5 c0 c1 s5
                  go_wp2_with (first
                    | (at_lookup; refine wpList_lookup_own_ok_int _ rfl _ _ 39 rfl 3 3 .i64 keyedI Try.underlying39 Try.underlying3 (zeroIn _) mb _ D rfl hM6 (.int .i64 (a : Int)) (.int .i64 (a : Int)) rfl ka ?_; intro c hat hwc; rw [LA2.out] at hat; injection hat with hat; injection hat with _ hat; subst hat; rw [LA1.out])
                    | (at_lookup; refine wpList_lookup_own_ok_int _ rfl _ _ 39 rfl 3 3 .i64 keyedI Try.underlying39 Try.underlying3 (zeroIn _) mb _ D rfl hM6 (.int .i64 (b : Int)) (.int .i64 (b : Int)) rfl kb ?_; intro c hat hwc; rw [LB2.out] at hat; injection hat with hat; injection hat with _ hat; subst hat; rw [LB1.out]))
                  go_quiet (fail)
                  go_wp2_with fail
                  go_roundw
                  case rel => exact ⟨b + 1, by omega, by go_num, below_drewN HB6.out _⟩
                  case measure => simp [intOf]; omega
              · obtain rfl : b = n := by omega
                go_wp2_with fail
                go_roundw
                case rel => exact ⟨a + 1, by omega, by go_num, hB⟩
                case measure => simp [intOf]; omega
          · obtain rfl : a = n := by omega
            obtain ⟨c0, c1, cl5⟩ := s5.cells
            go_wp2_with fail
            refine (alive_any _).mono ?_
            rintro e w6 ⟨rfl, hb6⟩
            have s6 := s5.step hb6
            have hM6 : IsMp w6 mb _ D := (HM4.out.below hB hml4).below hb6 (Nat.lt_of_lt_of_le hml4 hB.size)
            have hlen := fun ty => hM6.len Try.underlying39 ty
            rw [HSZ.out] at hlen
            clear c0 c1 cl5
            obtain ⟨c0, c1, cl6⟩ := s6.cells
            go_wp2_with fail
            go_ret
            exact ⟨rfl, s6.bl⟩

theorem lineFixed_any (hR : Rd w w.heap.size 4 A bs.length (bcells bs)) (hn : bs.length ≤ 9223372036854775807) (hlv : ∀ x ∈ bs, x.gone = false) (hY : Rd w w.heap.size 1 A2 y.length (ints y)) :
    Calls Try.prog 4 #[.agg #[.int .i64 N, .slice A bs.length c], .slice A2 y.length c2] w fun e w' => e = .returned (.bool true) ∧ Below w.heap.size w w' := by
  rcases hf : Ln.fewF N bs.length 14 40 with _ | _
  · exact fixed_early N A c bs A2 c2 y w hR hn (.inl hf)
  · by_cases hl : 20 < y.length
    · exact fixed_early N A c bs A2 c2 y w hR hn (.inr ⟨hf, hl⟩)
    · have hlen := Ln.fewF_len hf (by omega)
      have hLv : Ln.Lv bs := ⟨by omega, hlv⟩
      by_cases hs : Ln.soundF N bs [] = 0
      · exact fixed_main N A c bs A2 c2 y w hR hn hLv hf hY (by omega) hs
      · exact fixed_bad N A c bs A2 c2 y w hR hn hLv hf (by omega) hs
end

end Go.Proofs.Yteiaofgkmgllcaa
