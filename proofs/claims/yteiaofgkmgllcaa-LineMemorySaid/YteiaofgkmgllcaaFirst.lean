/-
  firstPath.
-/
import Derived.Test.YteiaofgkmgllcaaSearch
import Derived.Test.YteiaofgkmgllcaaAll
import Derived.Great.BuildSlice
import Derived.Great.FillDense
import Derived.Deep.MidRow
set_option linter.unusedVariables false
set_option linter.unusedSimpArgs false
namespace Go.Proofs.Yteiaofgkmgllcaa
open Go.RowKit Go.Shelf

theorem wpList_buildRow {P : Program} {w : World} {ops : Array Oper} {rest : List Oper} {o : Oper} {a : Act} {Q : Exit → Act → World → Prop} (hg : o.guard = none) (t e : TypeId) (x : Operand) (ho : o.op = .buildSlice t 1 #[(0, x)])
    (ie : TypeInfo) (z : Value) (hu : P.underlying t = some (.slice e)) (hie : P.info? e = some ie) (hz : ie.zero = some z) (hs : ie.size = 128) (d : List Int) (hd : d.length = 128) (hx : a.eval x = .agg (av d))
    (h : wpList P ops Q rest (a.put o.dst (.slice (some ⟨w.heap.size, 0, none⟩) 1 1)) (w.alloc (.cells (av d) e))) : wpList P ops Q (o :: rest) a w := by
  refine Go.wpList_buildSlice hg t e 1 #[(0, x)] ho (av d) ie z hu hie hz (by rw [hs]; decide) (by rw [hs]; decide) ?_ h
  have h1 : (Value.agg (av d)).cells.size = 128 := by
    show (av d).size = 128
    rw [av_size, hd]
  have := Go.Great.fill_whole (s := 128) (by decide) [Value.agg (av d)] ((Array.range (1 * ie.size)).map (z.cells[· % z.cells.size]!)) (fun v hv => by
    simp only [List.mem_cons, List.not_mem_nil, or_false] at hv
    rw [hv]
    exact h1) (by simp [hs])
  simp only [hs] at this ⊢
  simp only [List.map_toArray, List.map_cons, List.map_nil, hx]
  rw [show ([(0, Value.agg (av d))] : List (Nat × Value)) = (([Value.agg (av d)].zipIdx 0).map fun x => (x.2, x.1)) from rfl, this]
  simp [Value.cells]

namespace Ln
def rowsL (R : Nat → List Int) (n : Nat) : List Int := (List.range n).flatMap R
theorem rowsL_length {R : Nat → List Int} (h : ∀ a, (R a).length = 128) (n : Nat) : (rowsL R n).length = n * 128 := flat_length _ _ h
theorem rowsL_at {R : Nat → List Int} (h : ∀ a, (R a).length = 128) {n a p : Nat} (ha : a < n) (hp : p < 128) : gt (rowsL R n) (a * 128 + p) = gt (R a) p := flat_at _ _ h ha hp
theorem rowsL_succ (R : Nat → List Int) (n : Nat) : rowsL R (n + 1) = rowsL R n ++ R n := by simp [rowsL, List.range_succ]
end Ln

/-- The rows of rest, as a walk reads them. -/
theorem own_rows {w : World} {base : Nat} {v : Value} {R : Nat → List Int} (hR : ∀ a, (R a).length = 128) {n : Nat} (h : w.ownsRow base 89 128 v (n + 1) (ints (Ln.rowsL R (n + 1)))) :
    ∃ g c, v = .slice (some ⟨g, 0, none⟩) (n + 1) c ∧ base ≤ g ∧ g < w.heap.size ∧ ∀ k j, k < n + 1 → j < 128 → w.cell? ⟨g, k * 128 + j, none⟩ = some (.int .i64 (Ln.gt (R k) j)) := by
  have hl := Ln.rowsL_length hR (n + 1)
  rcases h.2 with ⟨_, h0⟩ | ⟨g, cap, cur, rfl, hb, hg, _⟩
  · omega
  · refine ⟨g, cap, rfl, hb, (Array.getElem?_eq_some_iff.1 hg).1, fun k j hk hj => ?_⟩
    have hlt : k * 128 + j < (n + 1) * 128 := by omega
    rw [h.cellAt (k * 128 + j) (by omega), ← Ln.rowsL_at hR hk hj, Ln.gt_eq (by omega)]
    simp [ints, hl, hlt]

theorem ints_one (l : List Int) : ∀ u ∈ ints l, u.oneCell' = true := by
  intro u hu
  obtain ⟨x, _, rfl⟩ := List.mem_map.1 hu
  rfl
theorem news_av {w : World} {g : Nat} {t : TypeId} {d : List Int} (h : Bk w g t (av d)) : ∀ j u, (ints d)[j]? = some u → w.cell? ((⟨g, 0, none⟩ : Addr).add j) = some u := by
  intro j u hj
  rw [show (⟨g, 0, none⟩ : Addr).add j = ⟨g, j, none⟩ from by unfold Addr.add; split <;> simp_all, h.cell j, ← hj]
  simp [av, ints]

def lenV : Value → Nat
  | .slice _ n _ => n
  | _ => 0

set_option maxRecDepth 100000 in
set_option maxHeartbeats 2000000 in
theorem firstPath_any {N : Nat} {bs : List Ln.Bd} (hok : Ln.Ok N bs) (B nb : Nat) (A : Option Addr) (c : Nat) (fr : List Value) (p q : Nat) (most : Int) (longest : Nat) (w : World) (hp : p < N) (hq : q < N) (h1 : -1000000000000000 ≤ most) (h2 : most ≤ 1000000000000000) (h3 : longest ≤ 128)
    (hN : IsNet w B nb N bs A c fr) (hBw : B ≤ w.heap.size) :
    Calls Try.prog 57 #[.pointer (some ⟨nb, 0, none⟩), .int .i64 p, .int .i64 q, .int .i64 most, .int .i64 longest] w fun e w' =>
      ∃ A' c', e = .returned (.tuple #[.slice A' (Ln.fpF bs N p q most longest).1.length c', .bool (Ln.fpF bs N p q most longest).2]) ∧ Rd w' w'.heap.size 1 A' (Ln.fpF bs N p q most longest).1.length (nlist (Ln.fpF bs N p q most longest).1) ∧ Below w.heap.size w w' ∧ (A' = none ↔ (Ln.fpF bs N p q most longest).1 = []) := by
  have hnB := hN.lt
  have htop := hok.top
  obtain ⟨i0, z0, hi0, hz0, hz1, hz2, hz3⟩ := info94
  have hq0 : (0 : Int) ≤ (q : Int) := Int.natCast_nonneg _
  have hq1 : (q : Int) < 128 := by omega
  have hp0 : (0 : Int) ≤ (p : Int) := Int.natCast_nonneg _
  have hp1 : (p : Int) < 128 := by omega
  obtain ⟨r, hr⟩ : ∃ r, Ln.fpF bs N p q most longest = r := ⟨_, rfl⟩
  rw [hr]
  have HRR := Lib.hid hr
  clear hr
  go_enter Try.func57, Try.ntmps57
  go_wp2_with (first
    | (go_at_call 76; refine (unreached_any _).mono ?_; rintro e w1 ⟨rfl, hb1⟩)
    | (refine wpList_buildRow rfl 78 89 _ rfl i0 z0 Try.underlying78 hi0 hz0 hz2 Ln.nones Ln.nones_length rfl ?_; have k1 := Bk.new w1 89 (av Ln.nones); have e1 := (k1.cell q).trans (av_at (by rw [Ln.nones_length]; omega)); have f1 := k1.frozen q))
  obtain ⟨R, hRe⟩ : ∃ R, Ln.rowF bs N q = R := ⟨_, rfl⟩
  have hR := Ln.rowF_small hok q
  rw [hRe] at hR
  have hR0 : Ln.nones.set q 0 = R 0 := by rw [← hRe, Ln.rowF]
  have hRs : ∀ k, R (k + 1) = Ln.lgF bs (R k) N := fun k => by rw [← hRe, Ln.rowF]
  have hO1 : (w1.alloc (.cells (av (R 0)) 89)).ownsRow w.heap.size 89 128 (.slice (some ⟨w1.heap.size, 0, none⟩) 1 1) (0 + 1) (ints (Ln.rowsL R (0 + 1))) := by
    have := World.ownsRow_lit (base := w.heap.size) (e := 89) (size := 128) w1 (av (R 0)) 1 hb1.size (by decide) (by rw [av_size, (hR 0).1])
    rw [av_list] at this
    simpa [Ln.rowsL] using this
  have hB1 : Below w.heap.size w (w1.alloc (.cells (av (R 0)) 89)) := hb1.alloc hb1.size _
  rw [av_set, hR0]
  have hfp : ∀ k, Ln.fpP bs N p q most k = decide (Ln.gt (R k) p ≤ most) := fun k => by rw [Ln.fpP, hRe]
  have HR := Lib.hid hR
  have HRS := Lib.hid hRs
  have HRE := Lib.hid hRe
  have HFP := Lib.hid hfp
  clear k1 e1 f1 hb1 hR hRs hRe hfp hR0
  go_loopw [12] (fun V wr => ∃ k : Nat, k ≤ longest ∧ (∀ j, j < k → Ln.fpP bs N p q most j = false) ∧ wr.ownsRow w.heap.size 89 128 V (k + 1) (ints (Ln.rowsL R (k + 1))) ∧ Below w.heap.size w wr)
    (fun V _ => longest + 1 - lenV V)
  case atStart => exact ⟨0, Nat.zero_le _, fun j hj => absurd hj (by omega), hO1, hB1⟩
  case round =>
    clear hO1 hB1
    obtain ⟨k, hk, hno, hO, hB⟩ := hrel
    obtain ⟨g, cV, hVe, hg1, hg2, hrows⟩ := own_rows (fun a => (HR.out a).1) hO
    subst hVe
    have hat := hrows k p (by omega) (by omega)
    have hyr := (HR.out k).2.at_ (k := p) (by have := (HR.out k).1; omega)
    obtain ⟨y, hy⟩ : ∃ y, Ln.gt (R k) p = y := ⟨_, rfl⟩
    rw [hy] at hat hyr
    have hBs := hB.size
    have hNn : Ln.NONE = 9223372036854775807 := rfl
    have hy1 : -9223372036854775808 ≤ y := by rcases hyr with h | h <;> omega
    have hy2 : y ≤ 9223372036854775807 := by rcases hyr with h | h <;> omega
    have HNO := Lib.hid hno
    have HROWS := Lib.hid hrows
    have HO := Lib.hid hO
    have HY := Lib.hid hy
    clear hno hrows hO hy hyr hNn
    obtain ⟨m, hm⟩ : ∃ m, k + 1 = m := ⟨_, rfl⟩
    have hm1 : (m : Int) - 1 = k := by omega
    have hk0 : (0 : Int) ≤ (k : Int) := Int.natCast_nonneg _
    have hk1 : (k : Int) < m := by omega
    rw [hm]
    rcases Int.lt_or_le most y with hlt | hlt
    · have hbad : Ln.fpP bs N p q most k = false := by rw [HFP.out, HY.out]; simp; omega
      have HBAD := Lib.hid hbad
      clear hbad
      rcases Nat.lt_or_ge longest m with hlg | hlg
      · have hmi : (longest : Int) < m := by omega
        go_wp2_with fail
        go_ret2
        have hr := HRR.out
        rw [Ln.fpF, Ln.fpM_none (fun j hj => by
          by_cases e : j < k
          · exact HNO.out j e
          · obtain rfl : j = k := by omega
            exact HBAD.out)] at hr
        subst hr
        exact ⟨none, 0, rfl, Rd.nil _ _ _ _, hB, by simp⟩
      · have hmi : (m : Int) ≤ longest := by omega
        have hN' := hN.below hB hBw
        have hrl := (HR.out k).1
        have hrl2 := (HR.out m).1
        have hrg : wr.rangeAt g (k * 128) (ints (R k)) := fun j v hj => by
          have hjl : j < (ints (R k)).length := (List.getElem?_eq_some_iff.1 hj).1
          rw [ints_length, hrl] at hjl
          rw [HROWS.out k j (by omega) hjl, ← hj, Ln.gt_eq (by omega)]
          simp [ints, hrl, hjl]
        have hlong := longer_any hok B nb A c fr (R k) (1000000 * k) wr hN' (by omega) hrl (HR.out k).2 (by omega) (by omega)
        rw [← HRS.out k, hm] at hlong
        have HLONG := Lib.hid hlong
        have HRG := Lib.hid hrg
        have hob : ∀ w2, Below wr.heap.size wr w2 → (w2.alloc (.cells (av (R m)) 89)).ownsRow w.heap.size 89 128 (.slice (some ⟨g, 0, none⟩) m cV) m (ints (Ln.rowsL R m)) := fun w2 hb => by
          have h := HO.out
          rw [hm] at h
          refine World.ownsRow.alloc (h.kept (grown_below hb) ?_) _
          exact .inr (by simp [Value.ownBlock])
        have HOB := Lib.hid hob
        clear hlong hrg hob
        go_wp2_with (first
          | (refine wpList_load_mid rfl 89 (.tmp 39) rfl g (k * 128) rfl (ints (R k)) _ HRG.out Try.underlying89 rfl (by rw [ints_length, hrl]; exact size94) ?_; rw [show Value.agg (ints (R k)).toArray = .agg (av (R k)) from rfl])
          | (go_at_call 82; refine HLONG.out.mono ?_; rintro e w2 ⟨rfl, hb2⟩)
          | (refine wpList_buildRow rfl 78 89 _ rfl i0 z0 Try.underlying78 hi0 hz0 hz2 (R m) hrl2 rfl ?_; have kX := Bk.new w2 89 (av (R m)))
          | (at_builtin; refine wpList_append_lies _ rfl _ _ 78 rfl w.heap.size 89 i0 _ 128 1024 Try.underlying78 hi0 hz0 hz2 hz3 (by rw [hz1, av_size, Ln.zeros_length]) (by omega) (.slice (some ⟨g, 0, none⟩) m cV) m _ rfl (HOB.out _ hb2) ⟨w2.heap.size, 0, none⟩ 1 1 (ints (R m)) rfl (by rw [ints_length, hrl2]) (news_av kX) (ints_one _) (by omega) (by unfold maxLen; omega) (by omega) (by rw [World.size_alloc]; have := hb2.size; omega) (w2.heap.size + 1) (by rw [World.size_alloc]) ?_; intro gg cap w3 hown hgrow hatt hlt3))
        have hB2 := ((hB.trans (hb2.mono hBs)).alloc (Nat.le_trans hBs hb2.size) (.cells (av (R m)) 89)).grown hgrow (by rw [World.size_alloc]; have := hb2.size; omega) (fun j e => by simp [Value.ownBlock] at e; omega)
        have REL := Lib.hid (And.intro hown hB2)
        clear hown hB2 hgrow
        go_roundw
        case rel =>
          refine ⟨m, hlg, fun j hj => ?_, ?_, REL.out.2⟩
          · by_cases e : j < k
            · exact HNO.out j e
            · obtain rfl : j = k := by omega
              exact HBAD.out
          · rw [Ln.rowsL_succ, show ints (Ln.rowsL R m ++ R m) = ints (Ln.rowsL R m) ++ ints (R m) from by simp [ints]]
            exact REL.out.1
        case measure => simp [lenV]; omega
    · have hgood : Ln.fpP bs N p q most k = true := by rw [HFP.out, HY.out]; simp; omega
      have hr := HRR.out
      rw [Ln.fpF, Ln.fpM_some hk HNO.out hgood, HRE.out] at hr
      simp only at hr
      have HR2 := Lib.hid hr
      clear hr
      have hs := search_any hok B nb A c fr R HR.out g k cV (by omega) p most wr hp (by omega) (by omega) (hN.below hB hBw) (by omega) hg2 HROWS.out
      rw [hm] at hs
      have HS := Lib.hid hs
      clear hs hgood
      go_wp2_with (go_at_call 83; refine HS.out.mono ?_; rintro e w2 ⟨A', c', rfl, hrd, hb2, hnil⟩)
      go_ret2
      have hr := HR2.out
      subst hr
      exact ⟨A', c', rfl, hrd, hB.trans (hb2.mono hBs), hnil⟩

end Go.Proofs.Yteiaofgkmgllcaa
