/-
  The reference's Blame; it says what Blame says.
-/
import Derived.Test.YtppfpdhgckghdaaWoS
import Derived.Test.YtppfpdhgckghdaaIns
import Derived.Test.YtppfpdhgckghdaaConR
import Derived.Test.YtppfpdhgckghdaaBlame
set_option linter.unusedVariables false
set_option linter.unusedSimpArgs false
namespace Go.Proofs.Ytppfpdhgckghdaa
open Go.RowKit Go.Shelf

namespace Ln
def rbP (bs : List Bd) (N : Nat) (i : Nat) : Bool := decide (0 < (bd bs i).r) && consR (woL [(bd bs i).r] bs) N
def rbK (bs : List Bd) (N k : Nat) : List Int := (List.range k).foldl (fun o i => if rbP bs N i = true then insF o (bd bs i).r else o) []
theorem rbK_succ (bs : List Bd) (N k : Nat) : rbK bs N (k + 1) = if rbP bs N k = true then insF (rbK bs N k) (bd bs k).r else rbK bs N k := by simp [rbK, List.range_succ]
theorem rbK_len (bs : List Bd) (N k : Nat) : (rbK bs N k).length ≤ k := by
  induction k with
  | zero => simp [rbK]
  | succ k ih =>
    rw [rbK_succ]
    split
    · have := insF_length (rbK bs N k) (bd bs k).r; omega
    · omega
def rblF (N : Int) (bs : List Bd) : List Int × Int := if check N bs = 0 then (if consR bs N.toNat = true then ([], 0) else (rbK bs N.toNat bs.length, 0)) else ([], check N bs)

theorem rbK_mem (bs : List Bd) (N k : Nat) : (rbK bs N k).Pairwise (· < ·) ∧ ∀ x, x ∈ rbK bs N k ↔ ∃ i, i < k ∧ rbP bs N i = true ∧ x = (bd bs i).r := by
  induction k with
  | zero => exact ⟨by simp [rbK], fun x => by simp [rbK]⟩
  | succ k ih =>
    rw [rbK_succ]
    split
    · rename_i h
      obtain ⟨h1, h2⟩ := insF_sorted (bd bs k).r ih.1
      refine ⟨h1, fun x => ?_⟩
      rw [h2, ih.2]
      constructor
      · rintro (rfl | ⟨i, a, b, c⟩)
        · exact ⟨k, by omega, h, rfl⟩
        · exact ⟨i, by omega, b, c⟩
      · rintro ⟨i, a, b, c⟩
        rcases Nat.lt_or_ge i k with e | e
        · exact .inr ⟨i, e, b, c⟩
        · obtain rfl : i = k := by omega
          exact .inl c
    · rename_i h
      refine ⟨ih.1, fun x => ?_⟩
      rw [ih.2]
      constructor
      · rintro ⟨i, a, b, c⟩
        exact ⟨i, by omega, b, c⟩
      · rintro ⟨i, a, b, c⟩
        rcases Nat.lt_or_ge i k with e | e
        · exact ⟨i, e, b, c⟩
        · obtain rfl : i = k := by omega
          exact absurd b h

theorem path_kept' {bs : List Bd} {y : Nat → Int} {p q : Nat} {l : List Nat} {s : Int} (hp : Pth bs p l q s) (h : ∀ i ∈ l, y (bd bs i).t.toNat ≤ y (bd bs i).f.toNat + (bd bs i).m) : y q ≤ y p + s := by
  induction hp with
  | nil p => omega
  | @cons i l q s hi hp ih =>
    have h1 := h i (by simp)
    have h2 := ih (fun j hj => h j (by simp [hj]))
    omega
theorem recR_iff {bs : List Bd} : ∀ (l o : List Int) (x : Int), x ∈ l.foldl (recS bs) o ↔ x ∈ o ∨ ∃ i ∈ l, 0 < x ∧ x = (bd bs i.toNat).r
  | [], o, x => by simp
  | i :: l, o, x => by
    rw [List.foldl_cons, recR_iff l]
    unfold recS
    split
    · rename_i h
      simp only [List.mem_append, List.mem_cons, List.not_mem_nil, or_false]
      constructor
      · rintro ((h1 | rfl) | ⟨j, hj, h2⟩)
        · exact .inl h1
        · exact .inr ⟨i, .inl rfl, h, rfl⟩
        · exact .inr ⟨j, .inr hj, h2⟩
      · rintro (h1 | ⟨j, (rfl | hj), h2⟩)
        · exact .inl (.inl h1)
        · exact .inl (.inr h2.2)
        · exact .inr ⟨j, hj, h2⟩
    · rename_i h
      simp only [List.mem_cons]
      constructor
      · rintro (h1 | ⟨j, hj, h2⟩)
        · exact .inl h1
        · exact .inr ⟨j, .inr hj, h2⟩
      · rintro (h1 | ⟨j, (rfl | hj), h2, h3⟩)
        · exact .inl h1
        · omega
        · exact .inr ⟨j, hj, h2, h3⟩

theorem rblF_eq {N : Int} {bs : List Bd} (hl : ∀ b ∈ bs, b.gone = false) : rblF N bs = blF N bs := by
  unfold rblF blF
  by_cases hc : check N bs = 0
  · rw [if_pos hc, if_pos hc]
    obtain ⟨hok, hN⟩ := ok_of_check hc
    rw [consR_eq hok hl]
    by_cases hco : consF bs N.toNat = true
    · rw [if_pos hco, if_pos hco]
    · rw [if_neg hco, if_neg hco]
      have hnn : ¬ NoNeg bs := fun h => hco ((cons_iff hok).2 h)
      obtain ⟨⟨p, s, hp, hneg⟩, _, _, _⟩ := circF_ok hok hnn
      obtain ⟨h1, h2⟩ := rbK_mem bs N.toNat bs.length
      refine Prod.ext ?_ rfl
      refine uniq h1 ?_ fun x => ?_
      · rw [recC_eq]
        exact (fold_ins _ [] (by simp)).1.sublist (List.filter_sublist)
      · dsimp only
        rw [h2, List.mem_filter, recC_eq, (fold_ins _ [] (by simp)).2]
        have hcw : ∀ r, consR (woL [r] bs) N.toNat = consF (woL [r] bs) N.toNat := fun r => consR_eq (woL_ok hok [r]) (fun b hb => hl b (woL_mem hb))
        rw [recR, recR_iff]
        simp only [List.not_mem_nil, or_false, false_or]
        constructor
        · rintro ⟨i, hi, hb, rfl⟩
          simp only [rbP, Bool.and_eq_true, decide_eq_true_eq] at hb
          rw [hcw] at hb
          refine ⟨Classical.byContradiction fun hne => ?_, by simp [blP, hb.2]⟩
          obtain ⟨y, hy⟩ := (cons_pot (woL_ok hok [(bd bs i).r])).1 hb.2
          have := path_kept' (y := y) hneg.1 (fun j hj => by
            have hlv := hneg.1.live j hj
            have hne2 : ¬ (bd bs j).r = (bd bs i).r := fun e => hne ⟨(j : Int), List.mem_map.2 ⟨j, hj, rfl⟩, hb.1, by rw [Int.toNat_natCast]; exact e.symm⟩
            have hmem : bd bs j ∈ woL [(bd bs i).r] bs := List.mem_filter.2 ⟨bd_mem hlv.1, by simpa using hne2⟩
            obtain ⟨m, hm, e⟩ := List.getElem_of_mem hmem
            have := hy m ⟨hm, by rw [bd_eq hm, e]; exact hlv.2⟩
            rw [bd_eq hm, e] at this
            exact this)
          have := hneg.2
          omega
        · rintro ⟨⟨j, hj, hx0, hx⟩, hb⟩
          obtain ⟨i, hi, rfl⟩ := List.mem_map.1 hj
          have hlv := hneg.1.live i hi
          rw [Int.toNat_natCast] at hx
          refine ⟨i, hlv.1, ?_, hx⟩
          simp only [rbP, Bool.and_eq_true, decide_eq_true_eq]
          rw [← hx, hcw]
          exact ⟨hx0, by simpa [blP] using hb⟩
  · rw [if_neg hc, if_neg hc]
end Ln

set_option maxRecDepth 100000 in
set_option maxHeartbeats 2000000 in
theorem rblame_any (N : Int) (A : Option Addr) (c : Nat) (bs : List Ln.Bd) (w : World) (hR : Rd w w.heap.size 4 A bs.length (bcells bs)) (hc : Ln.Lv bs) (hlen : bs.length ≤ 2005) :
    Calls Try.prog 22 #[.agg #[.int .i64 N, .slice A bs.length c]] w fun e w' => ∃ v', e = .returned (.tuple #[v', .int .i64 (Ln.rblF N bs).2]) ∧ Sl w' v' (Ln.rblF N bs).1 ∧ Below w.heap.size w w' := by
  have hB0 : Below w.heap.size w (w.alloc (.cells #[.int .i64 N, .slice A bs.length c] 24)) := (Below.refl _ _).alloc (Nat.le_refl _) _
  have hR1 := (hR.below hB0 (Nat.le_refl _)).more hB0.size
  have kS := Bk.new w 24 #[.int .i64 N, .slice A bs.length c]
  by_cases hs : Ln.check N bs = 0
  · obtain ⟨hok, hN⟩ := Ln.ok_of_check hs
    obtain ⟨M, hM⟩ : ∃ M, N.toNat = M := ⟨_, rfl⟩
    have hr : Ln.rblF N bs = if Ln.consR bs M = true then ([], 0) else (Ln.rbK bs M bs.length, 0) := by rw [Ln.rblF, if_pos hs, hM]
    rw [hM] at hok hN
    clear hM
    subst hN
    rw [hr]
    have HS := Lib.hid hs
    have HCO := fun w h => rconsistent_any hok hc.live A c w h
    have HCW := fun r A c w h => rconsistent_any (Ln.woL_ok hok [r]) (Ln.woL_lv hc [r]).live A c w h
    have HCW := Lib.hid HCW
    clear hs hr
    rcases hco : Ln.consR bs M with _ | _
    · rw [hco] at HCO
      have HCO := Lib.hid HCO
      rw [if_neg (by simp)]
      clear hco
      go_enter Try.func22, Try.ntmps22
      go_wp2_with fail
      refine (rcheck_any M A c bs _ hR1 hc.len).mono ?_
      rw [HS.out]
      rintro e w1 ⟨rfl, hb1⟩
      have k1 := kS.below hb1 (by simp)
      have c0 := k1.cell 0
      have c1 := k1.cell 1
      simp only [List.getElem?_toArray, List.getElem?_cons_zero, List.getElem?_cons_succ] at c0 c1
      have hB1 := hB0.trans (hb1.mono hB0.size)
      have hR2 := (hR.below hB1 (Nat.le_refl _)).more hB1.size
      go_wp2_with fail
      refine (HCO.out _ hR2).mono ?_
      rintro e w2 ⟨rfl, hb2⟩
      have k2 := k1.below hb2 k1.lt
      have hB2 := hB1.trans (hb2.mono hB1.size)
      clear c0 c1 hR2
      go_wp2_with fail
      go_loopw [6, 7] (fun V i wr => ∃ k : Nat, k ≤ bs.length ∧ i = .int .i64 k ∧ Sl wr V (Ln.rbK bs M k) ∧ Bk wr w.heap.size 24 #[.int .i64 M, .slice A bs.length c] ∧ Below w.heap.size w wr)
        (fun _ i _ => bs.length - (intOf i).toNat)
      case atStart => exact ⟨0, Nat.zero_le _, rfl, Sl.nil _, k2, hB2⟩
      case round =>
        clear k1 hB1 k2 hB2 hb1 hb2
        obtain ⟨k, hk, rfl, hO, kS1, hB⟩ := hrel
        have hBs := hB.size
        have c0 := kS1.cell 0
        have c1 := kS1.cell 1
        have hS1 := kS1.lt
        simp only [List.getElem?_toArray, List.getElem?_cons_zero, List.getElem?_cons_succ] at c0 c1
        by_cases hlt : k < bs.length
        · obtain ⟨b, off, hA, hb, e0, e1, e2, e3⟩ := (hR.below hB (Nat.le_refl _)).bound hlt
          have hRr := (hR.below hB (Nat.le_refl _)).more hB.size
          subst hA
          rw [← Ln.bd_eq hlt] at e3
          clear e0 e1 e2
          have hstep := Ln.rbK_succ bs M k
          have hrl := Ln.rbK_len bs M k
          obtain ⟨r, hr⟩ : ∃ r, (Ln.bd bs k).r = r := ⟨_, rfl⟩
          rw [Ln.rbP, hr] at hstep
          rw [hr] at e3
          obtain ⟨R0, hR0⟩ : ∃ R0, Ln.rbK bs M k = R0 := ⟨_, rfl⟩
          rw [hR0] at hO hstep hrl
          have HST := Lib.hid hstep
          have HO := Lib.hid hO
          clear hr hstep hR0 hO
          have hb9 : b < wr.heap.size := by omega
          have hX : Below wr.heap.size wr (wr.alloc (.cells #[.int .i64 r] 3)) := (Below.refl _ _).alloc (Nat.le_refl _) _
          have hRX := (hRr.below hX (Nat.le_refl _)).more hX.size
          have kX := Bk.new wr 3 #[.int .i64 r]
          have hLX : Rd (wr.alloc (.cells #[.int .i64 r] 3)) (wr.alloc (.cells #[.int .i64 r] 3)).heap.size 1 (some ⟨wr.heap.size, 0, none⟩) [r].length (ints [r]) := ⟨rfl, fun _ => ⟨wr.heap.size, 0, rfl, kX.lt, fun j hj => by rw [Nat.zero_add, kX.cell j]; simp [ints]⟩⟩
          clear hRr kX
          go_wp2_with fail
          refine (rwo_any M _ c bs (some ⟨wr.heap.size, 0, none⟩) 1 [r] _ hRX (by omega) hLX (by simp)).mono ?_
          rintro e w2 ⟨A', c', rfl, hr', _, hb2⟩
          have hb2' := hX.trans (hb2.mono hX.size)
          go_wp2_with fail
          refine (HCW.out r A' c' _ hr').mono ?_
          rintro e w3 ⟨rfl, hb3⟩
          have hb3' := hb2'.trans (hb3.mono hb2'.size)
          have REL := Lib.hid (And.intro (kS1.below hb3' hS1) (And.intro (hB.trans (hb3'.mono hBs)) (HO.out.below hb3')))
          clear hRX hLX hX hr' hb2 hb3 hb2' kS1 c0 c1
          obtain ⟨cw, hcw⟩ : ∃ cw, Ln.consR (Ln.woL [r] bs) M = cw := ⟨_, rfl⟩
          have hst := HST.out
          rw [hcw] at hst ⊢
          have HST2 := Lib.hid hst
          clear hst hcw HST HO
          rcases Int.lt_or_le 0 r with hr0 | hr0
          · rcases cw with _ | _
            · go_wp2_with fail
              go_roundw
              case rel =>
                have h := HST2.out
                rw [if_neg (by simp)] at h
                exact ⟨k + 1, by omega, by go_num, by rw [h]; exact REL.out.2.2, REL.out.1, REL.out.2.1⟩
              case measure => simp [intOf]; omega
            · go_wp2_with fail
              refine (insert_sl _ R0 r _ REL.out.2.2 (by omega)).mono ?_
              rintro e w4 ⟨v4, rfl, hv4, hb4⟩
              go_wp2_with fail
              go_roundw
              case rel =>
                have h := HST2.out
                rw [if_pos (by simp [hr0])] at h
                exact ⟨k + 1, by omega, by go_num, by rw [h]; exact hv4, REL.out.1.below hb4 REL.out.1.lt, REL.out.2.1.trans (hb4.mono REL.out.2.1.size)⟩
              case measure => simp [intOf]; omega
          · go_wp2_with fail
            go_roundw
            case rel =>
              have h := HST2.out
              rw [if_neg (by simp; omega)] at h
              exact ⟨k + 1, by omega, by go_num, by rw [h]; exact REL.out.2.2, REL.out.1, REL.out.2.1⟩
            case measure => simp [intOf]; omega
        · obtain rfl : k = bs.length := by omega
          have HO := Lib.hid hO
          clear hO
          go_wp2_with fail
          go_ret2
          exact ⟨_, rfl, HO.out, hB⟩
    · rw [hco] at HCO
      have HCO := Lib.hid HCO
      rw [if_pos rfl]
      clear hco
      go_enter Try.func22, Try.ntmps22
      go_wp2_with fail
      refine (rcheck_any M A c bs _ hR1 hc.len).mono ?_
      rw [HS.out]
      rintro e w1 ⟨rfl, hb1⟩
      have k1 := kS.below hb1 (by simp)
      have c0 := k1.cell 0
      have c1 := k1.cell 1
      simp only [List.getElem?_toArray, List.getElem?_cons_zero, List.getElem?_cons_succ] at c0 c1
      have hB1 := hB0.trans (hb1.mono hB0.size)
      have hR2 := (hR.below hB1 (Nat.le_refl _)).more hB1.size
      go_wp2_with fail
      refine (HCO.out _ hR2).mono ?_
      rintro e w2 ⟨rfl, hb2⟩
      go_wp2_with fail
      go_ret2
      exact ⟨_, rfl, Sl.nil _, hB1.trans (hb2.mono hB1.size)⟩
  · have hne : (Ln.check N bs != 0) = true := by simp [hs]
    have hr : Ln.rblF N bs = ([], Ln.check N bs) := by rw [Ln.rblF, if_neg hs]
    rw [hr]
    clear hs hr
    go_enter Try.func22, Try.ntmps22
    go_wp2_with fail
    refine (rcheck_any N A c bs _ hR1 hc.len).mono ?_
    rintro e w1 ⟨rfl, hb1⟩
    go_wp2_with fail
    go_ret2
    exact ⟨_, rfl, Sl.nil _, hB0.trans (hb1.mono hB0.size)⟩

end Go.Proofs.Ytppfpdhgckghdaa
