/-
  Blame.
-/
import Derived.Test.YteiaofgkmgllcaaDel
import Derived.Test.YteiaofgkmgllcaaWo
import Derived.Test.YteiaofgkmgllcaaCirc
set_option linter.unusedVariables false
set_option linter.unusedSimpArgs false
namespace Go.Proofs.Yteiaofgkmgllcaa
open Go.RowKit Go.Shelf Go.Sort

namespace Ln
theorem woL_mem {l : List Int} {bs : List Bd} {b : Bd} (h : b ∈ woL l bs) : b ∈ bs := (List.mem_filter.1 h).1
theorem woL_ok {N : Nat} {bs : List Bd} (hok : Ok N bs) (l : List Int) : Ok N (woL l bs) := ⟨hok.pos, hok.top, Nat.le_trans (woL_length l bs) hok.len, fun b hb => hok.each b (woL_mem hb)⟩
theorem woL_lv {bs : List Bd} (h : Lv bs) (l : List Int) : Lv (woL l bs) := ⟨Nat.le_trans (woL_length l bs) h.len, fun b hb => h.live b (woL_mem hb)⟩
theorem recR_mem {bs : List Bd} : ∀ (l : List Int) (o : List Int) (x : Int), x ∈ l.foldl (recS bs) o → x ∈ o ∨ ∃ i ∈ l, x = (bd bs i.toNat).r
  | [], o, x, h => .inl h
  | i :: l, o, x, h => by
    rcases recR_mem l _ x h with h | ⟨j, hj, e⟩
    · unfold recS at h
      split at h
      · rcases List.mem_append.1 h with h | h
        · exact .inl h
        · exact .inr ⟨i, by simp, by simpa using h⟩
      · exact .inl h
    · exact .inr ⟨j, by simp [hj], e⟩
theorem compact_mem {l : List Int} {x : Int} (h : x ∈ Lib.compact l) : x ∈ l := by
  unfold Lib.compact Lib.compactUpTo at h
  obtain ⟨i, hi, rfl⟩ := List.mem_map.1 h
  have := (List.mem_filter.1 hi).1
  rw [List.mem_range] at this
  rw [getElem!_pos l.toArray i (by simpa using this)]
  simp
theorem recC_mem {l : List Int} {x : Int} (h : x ∈ recC l) : x ∈ l := by
  have := compact_mem h
  simpa using this
/-- Whoever of some records is in every contradiction: without it the system can be kept. -/
def blP (N : Nat) (bs : List Bd) (r : Int) : Bool := !consF (woL [r] bs) N
/-- Blame, errors and all. -/
def blF (N : Int) (bs : List Bd) : List Int × Int :=
  if check N bs = 0 then (if consF bs N.toNat = true then ([], 0) else ((recC (recR bs (zl (circF bs N.toNat)))).filter (fun r => !blP N.toNat bs r), 0)) else ([], check N bs)
theorem circ_ok (bs : List Bd) (N : Nat) : recOk bs (zl (circF bs N)) = true := by
  rw [recOk, List.all_eq_true]
  intro x hx
  obtain ⟨i, hi, rfl⟩ := List.mem_map.1 hx
  have := (circK_top (bs := bs) (N := N) N).2.2 i hi
  simp
  omega
end Ln

section
variable (N : Nat) (A : Option Addr) (c : Nat) (bs : List Ln.Bd)

set_option maxRecDepth 100000 in
set_option maxHeartbeats 1000000 in
theorem blame1_any (sb : Nat) (r : Int) (w : World) (hs : Ln.check N bs = 0) (hS : Bk w sb 24 #[.int .i64 N, .slice A bs.length c]) (hR : Rd w w.heap.size 4 A bs.length (bcells bs)) (hc : Ln.Lv bs) (hr : (Lit.int .i64 r).wf = true) :
    Calls Try.prog 64 #[.int .i64 r, .pointer (some ⟨sb, 0, none⟩)] w fun e w' => e = .returned (.bool (Ln.blP N bs r)) ∧ Below w.heap.size w w' := by
  have hok := (Ln.ok_of_check hs).1
  rw [Int.toNat_natCast] at hok
  have hok' := Ln.woL_ok hok [r]
  have hlv' := Ln.woL_lv hc [r]
  have c0 := hS.cell 0
  have c1 := hS.cell 1
  have hSl := hS.lt
  simp only [List.getElem?_toArray, List.getElem?_cons_zero, List.getElem?_cons_succ] at c0 c1
  have hB0 : Below w.heap.size w (w.alloc (.cells #[.int .i64 r] 3)) := (Below.refl _ _).alloc (Nat.le_refl _) _
  have hR1 := (hR.below hB0 (Nat.le_refl _)).more hB0.size
  have hP1 : Rd (w.alloc (.cells #[.int .i64 r] 3)) (w.alloc (.cells #[.int .i64 r] 3)).heap.size 1 (some ⟨w.heap.size, 0, none⟩) [r].length (ints [r]) := bk_rd (d := [r]) (Bk.new w 3 #[.int .i64 r]) rfl
  have hwo := without_any N A c bs (some ⟨w.heap.size, 0, none⟩) 1 [r] _ hR1 hc hP1 (by simp) (fun x hx => by simp at hx; rw [hx]; exact hr)
  have hwf : Ln.woF N bs [r] = (((N : Int), Ln.woL [r] bs), 0) := by rw [Ln.woF, if_pos hs]
  rw [hwf] at hwo
  unfold Ln.blP
  obtain ⟨cs, hcs⟩ : ∃ cs, Ln.woL [r] bs = cs := ⟨_, rfl⟩
  rw [hcs] at hwo hok' hlv' ⊢
  have HWO := Lib.hid hwo
  clear hwo hwf hcs hs
  rcases hco : Ln.consF cs N with _ | _
  all_goals
    go_enter Try.func64, Try.ntmps64
    go_wp2_with (first
      | (go_at_call 19; refine HWO.out.mono ?_; rintro e w1 ⟨A', c', rfl, hrd1, _, hb1⟩; have hbX : Below w1.heap.size w1 (w1.alloc (.cells #[.int .i64 N, .slice A' cs.length c'] 24)) := (Below.refl _ _).alloc (Nat.le_refl _) _; have hrd2 := (hrd1.below hbX (Nat.le_refl _)).more hbX.size)
      | (go_at_call 34; refine (netOf_any N A' c' cs hok' hlv' _ hrd2).mono ?_; rintro e w2 ⟨nb, fr, rfl, hNt, hb2⟩)
      | (go_at_call 35; refine (consistent_any hok' _ nb A' c' fr _ hNt (Nat.le_refl _)).mono ?_; rw [hco]; rintro e w3 ⟨rfl, hb3⟩))
    go_ret
    have z1 := hb1.size
    have z2 := hb2.size
    simp only [World.size_alloc] at z1 z2
    exact ⟨rfl, ((hB0.trans (hb1.mono hB0.size)).trans ((hbX.trans (hb2.mono hbX.size)).mono (by omega))).trans (hb3.mono (by omega))⟩
end

theorem recordsN_any (N : Int) (A : Option Addr) (c : Nat) (bs : List Ln.Bd) (A2 : Option Addr) (c2 : Nat) (l : List Nat) (w : World) (hR : Rd w w.heap.size 4 A bs.length (bcells bs)) (hc : Ln.Lv bs) (hL : Rd w w.heap.size 1 A2 l.length (nlist l)) (hll : l.length ≤ 1000000) :
    Calls Try.prog 63 #[.agg #[.int .i64 N, .slice A bs.length c], .slice A2 l.length c2] w fun e w' => ∃ A' c', e = .returned (.tuple #[.slice A' (Ln.recF N bs (Ln.zl l)).1.length c', .int .i64 (Ln.recF N bs (Ln.zl l)).2]) ∧
      (Ln.recF N bs (Ln.zl l)).1.length ≤ c' ∧ Fresh w' w.heap.size A' (Ln.recF N bs (Ln.zl l)).1 ∧ Below w.heap.size w w' := by
  have h := records_any N A c bs A2 c2 (Ln.zl l) w hR hc (by rw [Ln.zl_length, ← nlist_ints]; exact hL) (by rw [Ln.zl_length]; exact hll)
  rw [Ln.zl_length] at h
  exact h

set_option maxRecDepth 100000 in
set_option maxHeartbeats 1000000 in
theorem delete_nil_any (cap : Nat) (f : Value) (w : World) :
    Calls Try.prog 59 #[.slice none 0 cap, f] w fun e w' => e = .returned (.slice none 0 cap) ∧ w' = w := by
  have hidx : Calls Try.prog 85 #[.slice none 0 cap, f] w fun e w' => e = .returned (.int .i64 (-1)) ∧ w' = w := by
    go_enter Try.func85, Try.ntmps85
    go_wp2_with fail
    go_loopw [8] (fun i wr => i = .int .i64 0 ∧ wr = w) (fun _ _ => 0)
    case atStart => exact ⟨rfl, rfl⟩
    case round =>
      obtain ⟨rfl, rfl⟩ := hrel
      go_wp2_with fail
      go_ret
      exact ⟨rfl, rfl⟩
  have HI := Lib.hid hidx
  clear hidx
  go_enter Try.func59, Try.ntmps59
  go_wp2_with (go_at_call 85; refine HI.out.mono ?_; rintro e w2 ⟨rfl, rfl⟩)
  go_ret
  exact ⟨rfl, rfl⟩

theorem recC_wf {N : Int} {bs : List Ln.Bd} (hs : Ln.check N bs = 0) {C : List Nat} (hC : ∀ i ∈ C, i < bs.length) {x : Int} (hx : x ∈ Ln.recC (Ln.recR bs (Ln.zl C))) : (Lit.int .i64 x).wf = true := by
  rcases Ln.recR_mem _ _ _ (Ln.recC_mem hx) with h | ⟨i, hi, rfl⟩
  · cases h
  · obtain ⟨n, hn, rfl⟩ := List.mem_map.1 hi
    have := rec_of_check hs (hC n hn)
    exact wf_small this.1 this.2

section
variable (N : Int) (A : Option Addr) (c : Nat) (bs : List Ln.Bd) (w : World)

set_option maxRecDepth 100000 in
set_option maxHeartbeats 2000000 in
theorem blame_any (hR : Rd w w.heap.size 4 A bs.length (bcells bs)) (hc : Ln.Lv bs) :
    Calls Try.prog 32 #[.agg #[.int .i64 N, .slice A bs.length c]] w fun e w' => ∃ A' c', e = .returned (.tuple #[.slice A' (Ln.blF N bs).1.length c', .int .i64 (Ln.blF N bs).2]) ∧
      Rd w' w'.heap.size 1 A' (Ln.blF N bs).1.length (ints (Ln.blF N bs).1) ∧ Below w.heap.size w w' := by
  have hB0 : Below w.heap.size w (w.alloc (.cells #[.int .i64 N, .slice A bs.length c] 24)) := (Below.refl _ _).alloc (Nat.le_refl _) _
  have hR1 := (hR.below hB0 (Nat.le_refl _)).more hB0.size
  have kS := Bk.new w 24 #[.int .i64 N, .slice A bs.length c]
  obtain ⟨r, hr⟩ : ∃ r, Ln.blF N bs = r := ⟨_, rfl⟩
  rw [hr]
  rw [Ln.blF] at hr
  have hcirc := circle_any N A c bs _ hR1 hc
  by_cases hs : Ln.check N bs = 0
  · obtain ⟨M, rfl⟩ : ∃ M : Nat, N = M := ⟨N.toNat, by have := (Ln.ok_of_check hs).2; omega⟩
    rw [if_pos hs, Int.toNat_natCast] at hr
    rw [Ln.ciF, if_pos hs, Int.toNat_natCast] at hcirc
    rcases hco : Ln.consF bs M with _ | _
    · rw [hco, if_neg (by simp)] at hr hcirc
      have hct := Ln.circK_top (bs := bs) (N := M) M
      obtain ⟨C, hC⟩ : ∃ C, Ln.circF bs M = C := ⟨_, rfl⟩
      have hok := Ln.circ_ok bs M
      rw [Ln.circF] at hC
      rw [hC] at hct
      rw [← Ln.circF] at hC
      rw [hC] at hr hcirc hok
      have hrf : Ln.recF M bs (Ln.zl C) = (Ln.recC (Ln.recR bs (Ln.zl C)), 0) := by rw [Ln.recF, if_pos hs, if_pos hok]
      have hwf : ∀ x ∈ Ln.recC (Ln.recR bs (Ln.zl C)), (Lit.int .i64 x).wf = true := fun x hx => recC_wf hs hct.2.2 hx
      have hFl : (Ln.recC (Ln.recR bs (Ln.zl C))).length ≤ 1000 := by
        have h1 := Ln.compact_len ((Ln.recR bs (Ln.zl C)).mergeSort fun x y => decide (x ≤ y))
        rw [List.length_mergeSort] at h1
        have h2 := Ln.recR_length bs (Ln.zl C)
        rw [Ln.zl_length] at h2
        have h3 := (Ln.ok_of_check hs).1.top
        rw [Int.toNat_natCast] at h3
        have h4 := hct.2.1
        unfold Ln.recC
        omega
      have hCl : C.length ≤ 1000000 := by
        have h3 := (Ln.ok_of_check hs).1.top
        rw [Int.toNat_natCast] at h3
        have h4 := hct.2.1
        omega
      obtain ⟨F0, hF0⟩ : ∃ F0, Ln.recC (Ln.recR bs (Ln.zl C)) = F0 := ⟨_, rfl⟩
      rw [hF0] at hrf hwf hr hFl
      have hrec := fun A1 c1 W h1 h2 => recordsN_any M A c bs A1 c1 C W h1 hc h2 hCl
      rw [hrf] at hrec
      have HC := Lib.hid hcirc
      have HR := Lib.hid hr
      have HREC := Lib.hid hrec
      have HS := Lib.hid hs
      have HWF := Lib.hid hwf
      clear hcirc hr hrec hs hwf hrf hok hct hC hF0
      go_enter Try.func32, Try.ntmps32
      go_wp2_with (first
        | (go_at_call 10; refine HC.out.mono ?_; rintro e w1 ⟨A1, c1, rfl, hrd1, hb1⟩; have k1 := kS.below hb1 (by simp); have d0 := k1.cell 0; have d1 := k1.cell 1; have hB1 := hB0.trans (hb1.mono hB0.size); have hR2 := (hR.below hB1 (Nat.le_refl _)).more hB1.size)
        | (go_at_call 63; refine (HREC.out A1 c1 _ hR2 hrd1).mono ?_; rintro e w2 ⟨A2, c2, rfl, hcap, hfr, hb2⟩))
      have hB2 := hB1.trans (hb2.mono hB1.size)
      have hz1 := hb1.size
      rw [World.size_alloc] at hz1
      have hz2 := hb2.size
      rcases hfr with ⟨rfl, h0⟩ | ⟨g, rfl, hg1, hg2, hH⟩
      · subst h0
        refine (delete_nil_any c2 _ _).mono ?_
        rintro e w3 ⟨rfl, rfl⟩
        go_wp2_with fail
        go_ret2
        have hr := HR.out
        subst hr
        exact ⟨none, c2, rfl, Rd.nil _ _ _ _, hB2⟩
      · have hd := delete_blame g c2 F0.toArray (Ln.blP M bs) w.heap.size w2 hH hg2 (by simp; omega) (by simpa using hcap) (fun j hj W hk => by
          have hBW := hB2.trans (hk.below (B := w.heap.size) (by omega) (fun k hk e => by omega))
          refine blame1_any M A c bs w.heap.size _ W HS.out (hk.bk (k1.below hb2 (by omega)) (by omega) (by omega)) ((hR.below hBW (Nat.le_refl _)).more hBW.size) hc (HWF.out _ ?_)
          have hj' : j < F0.length := by simpa using hj
          rw [getElem!_pos F0.toArray j hj]
          simp)
        have HD := Lib.hid hd
        clear hd hH
        refine HD.out.mono ?_
        rintro e w3 ⟨rfl, hH3, hk3⟩
        go_wp2_with fail
        go_ret2
        have hr := HR.out
        subst hr
        have hBW := hB2.trans (hk3.below (B := w.heap.size) (by omega) (fun k hk e => by omega))
        exact ⟨some ⟨g, 0, none⟩, c2, rfl, holds_rd (r := []) (by simpa using hH3) (Nat.lt_of_lt_of_le hg2 hk3.size), hBW⟩
    · rw [hco, if_pos rfl] at hr hcirc
      have HC := Lib.hid hcirc
      have HR := Lib.hid hr
      clear hcirc hr
      go_enter Try.func32, Try.ntmps32
      go_wp2_with (go_at_call 10; refine HC.out.mono ?_; rintro e w1 ⟨A1, c1, rfl, hrd1, hb1⟩)
      go_ret2
      have hr := HR.out
      subst hr
      exact ⟨none, 0, rfl, Rd.nil _ _ _ _, hB0.trans (hb1.mono hB0.size)⟩
  · rw [if_neg hs] at hr
    rw [Ln.ciF, if_neg hs] at hcirc
    have hne : (Ln.check N bs != 0) = true := by simp [hs]
    have HC := Lib.hid hcirc
    have HR := Lib.hid hr
    clear hcirc hr hs
    go_enter Try.func32, Try.ntmps32
    go_wp2_with (go_at_call 10; refine HC.out.mono ?_; rintro e w1 ⟨A1, c1, rfl, hrd1, hb1⟩)
    go_ret2
    have hr := HR.out
    subst hr
    exact ⟨none, 0, rfl, Rd.nil _ _ _ _, hB0.trans (hb1.mono hB0.size)⟩
end

end Go.Proofs.Yteiaofgkmgllcaa
