/-
  Records.
-/
import Derived.Test.YteiaofgkmgllcaaFirst
import Derived.Test.YteiaofgkmgllcaaShelf
import Derived.Test.YteiaofgkmgllcaaMath
set_option linter.unusedVariables false
set_option linter.unusedSimpArgs false
namespace Go.Proofs.Yteiaofgkmgllcaa
open Go.RowKit Go.Shelf Go.Sort

set_option maxRecDepth 100000 in
set_option maxHeartbeats 1000000 in
theorem insertion_nil_any (w : World) : Calls Try.prog 97 #[.slice none 0 0, .int .i64 0, .int .i64 0] w fun e w' => e = .returned (.tuple #[]) ∧ w' = w := by
  go_enter Try.func97, Try.ntmps97
  go_wp2_with go_in
  go_loopw [6] (fun x wr => x = .int .i64 1 ∧ wr = w) (fun _ _ => 0)
  case atStart => exact ⟨rfl, rfl⟩
  case round =>
    obtain ⟨rfl, rfl⟩ := hrel
    go_wp2_with fail
    go_end0
    exact ⟨rfl, rfl⟩

set_option maxRecDepth 100000 in
set_option maxHeartbeats 1000000 in
theorem pdqsort_nil_any (v : Value) (w : World) : Calls Try.prog 93 #[.slice none 0 0, .int .i64 0, .int .i64 0, v] w fun e w' => e = .returned (.tuple #[]) ∧ w' = w := by
  go_enter Try.func93, Try.ntmps93
  go_wp2_with fail
  go_loopw [1, 2] (fun a b wr => a = .int .i64 0 ∧ b = .int .i64 0 ∧ wr = w) (fun _ _ _ => 0)
  case atStart => exact ⟨rfl, rfl, rfl⟩
  case round =>
    obtain ⟨rfl, rfl, rfl⟩ := hrel
    go_wp2_with (go_at_call 97; refine (insertion_nil_any _).mono ?_; rintro e w2 ⟨rfl, rfl⟩)
    exact bodyPost_ret (results_none rfl _ _ _) rfl ⟨rfl, rfl⟩

set_option maxRecDepth 100000 in
set_option maxHeartbeats 1000000 in
theorem sort_nil_any (w : World) : Calls Try.prog 86 #[.slice none 0 0] w fun e w' => e = .returned (.tuple #[]) ∧ w' = w := by
  go_enter Try.func86, Try.ntmps86
  go_wp2_with (first | (go_at_call 93; refine (pdqsort_nil_any _ _).mono ?_; rintro e w2 ⟨rfl, rfl⟩) | go_in)
  go_end0
  exact ⟨rfl, rfl⟩

/-- A slice of int that a call owns, as the shelf's contracts read it. -/
theorem own_holds {w : World} {base g n cap : Nat} {l : List Int} (h : w.ownsRow base 3 1 (.slice (some ⟨g, 0, none⟩) n cap) n (ints l)) (hl : l.length = n) : Holds (Value.int .i64) w g 0 l.toArray := fun j hj => by
  have hj' : j < l.length := by simpa using hj
  refine ⟨?_, by rw [Nat.zero_add]; exact h.frozenAt j⟩
  rw [Nat.zero_add, h.cellAt j (by omega)]
  simp [ints, hj']
theorem holds_rd {w : World} {g : Nat} {l r : List Int} (h : Holds (Value.int .i64) w g 0 (l ++ r).toArray) (hg : g < w.heap.size) : Rd w w.heap.size 1 (some ⟨g, 0, none⟩) l.length (ints l) := by
  refine ⟨by rw [ints_length, Nat.mul_one], fun _ => ⟨g, 0, rfl, hg, fun j hj => ?_⟩⟩
  have hj' : j < l.length := by omega
  rw [(h j (by simp; omega)).1]
  simp [ints, hj', List.getElem?_append_left]
theorem below_putRow {w w' : World} {g : Nat} {d : Array Int} {C : Nat} (hC : C ≤ g) (h : Below C w w') : Below C w (putRow (Value.int .i64) w' g 0 d) := by
  refine ⟨h.os, h.tape, h.output, by rw [size_putRow]; exact h.size, fun k hk => ?_⟩
  rw [← h.block k hk]
  simp only [putRow, mapBlock, Array.getElem?_modify]
  rw [if_neg (by omega)]
theorem below_grow {w w' : World} {os : Array Obj} {C : Nat} (hC : C ≤ w'.heap.size) (h : Below C w w') : Below C w (grow w' os) :=
  ⟨h.os, h.tape, h.output, by rw [size_grow]; exact Nat.le_trans h.size (Nat.le_add_right _ _), fun k hk => (heap_grow_old w' os (by omega)).trans (h.block k hk)⟩
theorem below_ahead {w w' : World} {n C : Nat} (h : Below C w w') : Below C w (Sort.ahead w' n) := ⟨h.os, h.tape, h.output, h.size, h.block⟩

theorem holds_front {w : World} {g : Nat} {l r : List Int} (h : Holds (Value.int .i64) w g 0 (l ++ r).toArray) : Holds (Value.int .i64) w g 0 l.toArray := fun j hj => by
  have hj' : j < l.length := by simpa using hj
  have := h j (by simp; omega)
  refine ⟨this.1.trans ?_, this.2⟩
  simp [hj', List.getElem?_append_left]

namespace Ln
theorem compact_len (l : List Int) : (Lib.compact l).length ≤ l.length := by
  unfold Lib.compact Lib.compactUpTo
  rw [List.length_map]
  exact Nat.le_trans (List.length_filter_le _ _) (by simp)
/-- The records of the bounds with some indices, those of nature left out; sorted, each once. -/
def recS (bs : List Bd) (o : List Int) (i : Int) : List Int := if 0 < (bd bs i.toNat).r then o ++ [(bd bs i.toNat).r] else o
def recR (bs : List Bd) (l : List Int) : List Int := l.foldl (recS bs) []
def recOk (bs : List Bd) (l : List Int) : Bool := l.all (fun i => decide (0 ≤ i) && decide (i < bs.length))
def recC (l : List Int) : List Int := Lib.compact (l.mergeSort fun x y => decide (x ≤ y))
theorem recC_nil : recC [] = [] := by simp [recC, Lib.compact, Lib.compactUpTo]
def recF (N : Int) (bs : List Bd) (l : List Int) : List Int × Int := if check N bs = 0 then (if recOk bs l = true then (recC (recR bs l), 0) else ([], 1)) else ([], check N bs)
theorem recR_step (bs : List Bd) {l : List Int} {k : Nat} (hk : k < l.length) : recR bs (l.take (k + 1)) = recS bs (recR bs (l.take k)) l[k] := by
  rw [List.take_succ_eq_append_getElem hk, recR, List.foldl_append]
  rfl
theorem recR_length (bs : List Bd) (l : List Int) : (recR bs l).length ≤ l.length := by
  have : ∀ (l o : List Int), (l.foldl (recS bs) o).length ≤ o.length + l.length := by
    intro l
    induction l with
    | nil => intro o; simp
    | cons x l ih =>
      intro o
      refine Nat.le_trans (ih _) ?_
      unfold recS
      split <;> simp <;> omega
  simpa [recR] using this l []
theorem recOk_step {bs : List Bd} {l : List Int} {k : Nat} (hk : k < l.length) (ha : recOk bs (l.take k) = true) (h : 0 ≤ l[k] ∧ l[k] < bs.length) : recOk bs (l.take (k + 1)) = true := by
  rw [List.take_succ_eq_append_getElem hk]
  simp only [recOk, List.all_append, Bool.and_eq_true] at ha ⊢
  exact ⟨ha, by simp [h.1, h.2]⟩
theorem recOk_no {bs : List Bd} {l : List Int} {k : Nat} (hk : k < l.length) (h : ¬ (0 ≤ l[k] ∧ l[k] < bs.length)) : recOk bs l = false := by
  rcases e : recOk bs l with _ | _
  · rfl
  · have := List.all_eq_true.1 e _ (List.getElem_mem hk)
    simp only [Bool.and_eq_true, decide_eq_true_eq] at this
    exact absurd this h
end Ln

/-- A slice of int in memory of a call's own, or a nil one. -/
def Fresh (w : World) (base : Nat) (A : Option Addr) (l : List Int) : Prop := (A = none ∧ l = []) ∨ ∃ g, A = some ⟨g, 0, none⟩ ∧ base ≤ g ∧ g < w.heap.size ∧ Holds (Value.int .i64) w g 0 l.toArray
theorem Fresh.rd {w : World} {base : Nat} {A : Option Addr} {l : List Int} (h : Fresh w base A l) : Rd w w.heap.size 1 A l.length (ints l) := by
  rcases h with ⟨rfl, rfl⟩ | ⟨g, rfl, _, hg, hH⟩
  · exact Rd.nil _ _ _ _
  · exact holds_rd (r := []) (by simpa using hH) hg

section
variable (N : Int) (A : Option Addr) (c : Nat) (bs : List Ln.Bd) (A2 : Option Addr) (c2 : Nat) (l : List Int) (w : World)

set_option maxRecDepth 100000 in
set_option maxHeartbeats 2000000 in
theorem records_any (hR : Rd w w.heap.size 4 A bs.length (bcells bs)) (hc : Ln.Lv bs) (hL : Rd w w.heap.size 1 A2 l.length (ints l)) (hll : l.length ≤ 1000000) :
    Calls Try.prog 63 #[.agg #[.int .i64 N, .slice A bs.length c], .slice A2 l.length c2] w fun e w' => ∃ A' c', e = .returned (.tuple #[.slice A' (Ln.recF N bs l).1.length c', .int .i64 (Ln.recF N bs l).2]) ∧
      (Ln.recF N bs l).1.length ≤ c' ∧ Fresh w' w.heap.size A' (Ln.recF N bs l).1 ∧ Below w.heap.size w w' := by
  obtain ⟨i0, hi0, hz0, hz1, hz2⟩ := info_parts info3
  have hB0 : Below w.heap.size w (w.alloc (.cells #[.int .i64 N, .slice A bs.length c] 24)) := (Below.refl _ _).alloc (Nat.le_refl _) _
  have hR1 := (hR.below hB0 (Nat.le_refl _)).more hB0.size
  have kS := Bk.new w 24 #[.int .i64 N, .slice A bs.length c]
  obtain ⟨r, hr⟩ : ∃ r, Ln.recF N bs l = r := ⟨_, rfl⟩
  rw [hr]
  rw [Ln.recF] at hr
  by_cases hs : Ln.check N bs = 0
  · rw [if_pos hs] at hr
    have hok := (Ln.ok_of_check hs).1
    have hlen := hok.len
    have HS := Lib.hid hs
    have HRR := Lib.hid hr
    clear hs hr
    go_enter Try.func63, Try.ntmps63
    go_wp2_with (go_at_call 33; refine (check_any N A c bs _ hR1 hc.len).mono ?_; rw [HS.out]; rintro e w1 ⟨rfl, hb1⟩; have k1 := kS.below hb1 (by simp); have c0 := k1.cell 0; have c1 := k1.cell 1; have hB1 := hB0.trans (hb1.mono hB0.size))
    have hw1 := hb1.size
    rw [World.size_alloc] at hw1
    go_loopw [7, 18] (fun V i wr => ∃ k : Nat, k ≤ l.length ∧ i = .int .i64 k ∧ Ln.recOk bs (l.take k) = true ∧ wr.ownsRow (w.heap.size + 1) 3 1 V (Ln.recR bs (l.take k)).length (ints (Ln.recR bs (l.take k))) ∧ (Ln.recR bs (l.take k) = [] → V = .slice none 0 0) ∧
        Bk wr w.heap.size 24 #[.int .i64 N, .slice A bs.length c] ∧ Below w.heap.size w wr)
      (fun _ i _ => l.length - (intOf i).toNat)
    case atStart => exact ⟨0, Nat.zero_le _, rfl, rfl, ⟨rfl, .inl ⟨rfl, rfl⟩⟩, fun _ => rfl, k1, hB1⟩
    case round =>
      clear k1 hB1 c0 c1 hb1 hw1
      obtain ⟨k, hk, rfl, hall, hO, hnil, kS1, hB⟩ := hrel
      have hBs := hB.size
      have c1 := kS1.cell 1
      have hS1 := kS1.lt
      simp only [List.getElem?_toArray, List.getElem?_cons_zero, List.getElem?_cons_succ] at c1
      by_cases hlt : k < l.length
      · obtain ⟨bl, ol, rfl, hbl, el⟩ := Rd.one (hL.below hB (Nat.le_refl _)) hlt
        have hstep := Ln.recR_step bs hlt
        have hoks := Ln.recOk_step (bs := bs) hlt hall
        have hokn := Ln.recOk_no (bs := bs) hlt
        have hrl := Ln.recR_length bs (l.take k)
        rw [List.length_take] at hrl
        obtain ⟨x, hx⟩ : ∃ x, l[k] = x := ⟨_, rfl⟩
        rw [hx] at el hstep hoks hokn
        obtain ⟨R0, hR0⟩ : ∃ R0, Ln.recR bs (l.take k) = R0 := ⟨_, rfl⟩
        rw [hR0] at hO hnil hstep hrl
        have HST := Lib.hid hstep
        have HOS := Lib.hid hoks
        have HON := Lib.hid hokn
        have HNL := Lib.hid hnil
        clear hx hstep hoks hokn hnil hall hR0
        rcases Int.lt_or_le x 0 with hx0 | hx0
        · go_wp2_with fail
          go_ret2
          have hr := HRR.out
          rw [HON.out (by omega), if_neg (by simp)] at hr
          subst hr
          exact ⟨none, 0, rfl, Nat.le_refl _, .inl ⟨rfl, rfl⟩, hB⟩
        · rcases Int.lt_or_le x bs.length with hx1 | hx1
          · obtain ⟨xn, rfl⟩ : ∃ xn : Nat, x = xn := ⟨x.toNat, by omega⟩
            have hxl : xn < bs.length := by omega
            obtain ⟨b, off, rfl, hb, e0, e1, e2, e3⟩ := (hR.below hB (Nat.le_refl _)).bound hxl
            rw [← Ln.bd_eq hxl] at e0 e1 e2 e3
            have hst := HST.out
            rw [Ln.recS, Int.toNat_natCast] at hst
            obtain ⟨rr, hrr⟩ : ∃ rr, (Ln.bd bs xn).r = rr := ⟨_, rfl⟩
            rw [hrr] at e3 hst
            have HST2 := Lib.hid hst
            clear hst hrr HST
            rcases Int.lt_or_le 0 rr with hr0 | hr0
            · go_wp2_with (at_builtin; refine wpList_append_lies _ rfl _ _ 25 rfl (w.heap.size + 1) 3 i0 _ 1 8 Try.underlying25 hi0 hz0 hz1 hz2 rfl (by omega) u7 _ _ rfl (hO.alloc _) ⟨wr.heap.size, 0, none⟩ 1 1 [.int .i64 rr] rfl rfl (World.news_of_block (cs := #[.int .i64 rr]) (t := 3) (fr := (0, 0)) (heap_alloc_new _ _)) (by simp [Value.oneCell']) (by omega) (by unfold maxLen; omega) (by omega) (by rw [World.size_alloc]; omega) (wr.heap.size + 1) (by simp) ?_; intro gg cap w2 hown hgrow hat hlt2)
              have kS2 := (kS1.alloc (.cells #[.int .i64 rr] 3)).grown hgrow (off_ne hO (by omega))
              have hB2 := (hB.alloc hBs (.cells #[.int .i64 rr] 3)).grown hgrow (by rw [World.size_alloc]; omega) (fun j e => by have := (hO.lt j e).1; omega)
              have REL := Lib.hid (And.intro hown (And.intro kS2 hB2))
              clear hown kS2 hB2 hgrow
              go_roundw
              case rel =>
                have hst := HST2.out
                rw [if_pos hr0] at hst
                refine ⟨k + 1, by omega, by go_num, HOS.out ⟨by omega, by omega⟩, ?_, ?_, REL.out.2.1, REL.out.2.2⟩
                · rw [hst, List.length_append, show ints (R0 ++ [rr]) = ints R0 ++ [.int .i64 rr] from by simp [ints]]
                  exact REL.out.1
                · rw [hst]
                  intro h
                  simp at h
              case measure => simp [intOf]; omega
            · go_wp2_with fail
              go_roundw
              case rel =>
                have hst := HST2.out
                rw [if_neg (by omega)] at hst
                exact ⟨k + 1, by omega, by go_num, HOS.out ⟨by omega, by omega⟩, by rw [hst]; exact hO, by rw [hst]; exact HNL.out, kS1, hB⟩
              case measure => simp [intOf]; omega
          · go_wp2_with fail
            go_ret2
            have hr := HRR.out
            rw [HON.out (by omega), if_neg (by simp)] at hr
            subst hr
            exact ⟨none, 0, rfl, Nat.le_refl _, .inl ⟨rfl, rfl⟩, hB⟩
      · obtain rfl : k = l.length := by omega
        rw [List.take_length] at hall hO hnil
        obtain ⟨R0, hR0⟩ : ∃ R0, Ln.recR bs l = R0 := ⟨_, rfl⟩
        have hrl := Ln.recR_length bs l
        rw [hR0] at hO hnil hrl
        have HAL := Lib.hid hall
        have HR0 := Lib.hid hR0
        clear hall hR0
        have hfin : (Ln.recC R0, (0 : Int)) = r := by
          have hr := HRR.out
          rw [HAL.out, if_pos rfl, HR0.out] at hr
          exact hr
        have HF := Lib.hid hfin
        clear hfin
        by_cases hR : R0 = []
        · subst hR
          have hV := hnil rfl
          subst hV
          clear hnil
          go_wp2_with (first
            | (go_at_call 86; refine (sort_nil_any _).mono ?_; rintro e w2 ⟨rfl, rfl⟩)
            | (go_at_call 87; refine (Any.slices_Compact_int_empty Try.laysCompact none 0 _).mono ?_; rintro e w3 ⟨rfl, rfl⟩))
          go_ret2
          have hr := HF.out
          subst hr
          rw [Ln.recC_nil]
          exact ⟨none, 0, rfl, Nat.le_refl _, .inl ⟨rfl, rfl⟩, hB⟩
        · have hpos : 0 < R0.length := List.length_pos_iff.2 hR
          clear hnil
          rcases hO.2 with ⟨_, h0⟩ | ⟨g, cap, cur, rfl, hg1, hg2, hcap, _⟩
          · omega
          · have hgl : g < wr.heap.size := (Array.getElem?_eq_some_iff.1 hg2).1
            have hH := own_holds hO rfl
            have hsort := Any.slices_Sort_int Try.laysSort g 0 cap R0 wr hH hgl (by omega)
            have hsl : (R0.mergeSort fun x y => decide (x ≤ y)).length = R0.length := List.length_mergeSort _
            have hcomp : ∀ n os, _ := fun n os => Any.slices_Compact_int Try.laysCompact g 0 cap (R0.mergeSort fun x y => decide (x ≤ y)) (grow (putRow (Value.int .i64) (Sort.ahead wr n) g 0 (R0.mergeSort fun x y => decide (x ≤ y)).toArray) os)
              (holds_grow _ _ _ _ _ _ (by rw [size_putRow]; exact hgl) (holds_putRow _ _ _ _ _ _ (holds_ahead _ _ n _ _ _ hH) (by simp))) (by omega) (by omega)
            rw [hsl] at hcomp
            have HSORT := Lib.hid hsort
            have HCOMP := Lib.hid hcomp
            obtain ⟨S0, hS0⟩ : ∃ S0, (R0.mergeSort fun x y => decide (x ≤ y)) = S0 := ⟨_, rfl⟩
            have hH0 := Lib.hid hH
            rw [hS0] at HSORT HCOMP hsl
            have HS0 := Lib.hid hS0
            clear hsort hcomp hH hS0 hO hg2
            go_wp2_with (first
              | (go_at_call 86; refine HSORT.out.mono ?_; rintro e w2 ⟨rfl, n, os, rfl⟩)
              | (go_at_call 87; refine (HCOMP.out n os).mono ?_; rintro e w3 ⟨rfl, q, rfl⟩))
            go_ret2
            have hr := HF.out
            rw [Ln.recC, HS0.out] at hr
            subst hr
            have hcl : (Lib.compact S0).length ≤ S0.length := Ln.compact_len S0
            have hH2 : Holds (Value.int .i64) (grow (putRow (Value.int .i64) (Sort.ahead wr n) g 0 S0.toArray) os) g 0 S0.toArray := holds_grow _ _ _ _ _ _ (by rw [size_putRow]; exact hgl) (holds_putRow _ _ _ _ _ _ (holds_ahead _ _ n _ _ _ hH0.out) (by simp [hsl]))
            refine ⟨some ⟨g, 0, none⟩, cap, rfl, by simp only; omega, .inr ⟨g, rfl, by omega, by simp; omega, ?_⟩, ?_⟩
            · have := holds_putRow (Value.int .i64) _ g 0 _ (Lib.compact S0 ++ List.replicate (R0.length - (Lib.compact S0).length) 0).toArray (holds_ahead _ _ q _ _ _ hH2) (by simp; omega)
              exact holds_front this
            · refine below_putRow (by omega) (below_ahead (below_grow (by rw [size_putRow]; exact hBs) (below_putRow (by omega) (below_ahead hB))))
  · rw [if_neg hs] at hr
    have hne : (Ln.check N bs != 0) = true := by simp [hs]
    have HRR := Lib.hid hr
    clear hs hr
    go_enter Try.func63, Try.ntmps63
    go_wp2_with (go_at_call 33; refine (check_any N A c bs _ hR1 hc.len).mono ?_; rintro e w1 ⟨rfl, hb1⟩)
    go_ret2
    have hr := HRR.out
    subst hr
    exact ⟨none, 0, rfl, Nat.le_refl _, .inl ⟨rfl, rfl⟩, hB0.trans (hb1.mono hB0.size)⟩
end

end Go.Proofs.Yteiaofgkmgllcaa
