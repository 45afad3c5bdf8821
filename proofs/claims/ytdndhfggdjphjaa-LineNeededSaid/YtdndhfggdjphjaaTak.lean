/-
  The law's taken; SameFlags; the law's alike at two systems whose distances are not the same.
-/
import Derived.Test.YtdndhfggdjphjaaNedM
import Derived.Test.YtdndhfggdjphjaaWo
set_option linter.unusedVariables false
set_option linter.unusedSimpArgs false
namespace Go.Proofs.Ytdndhfggdjphjaa
open Go.RowKit Go.Shelf

theorem bcells_snoc (l : List Ln.Bd) (b : Ln.Bd) : bcells (l ++ [b]) = bcells l ++ [.int .i64 b.f, .int .i64 b.t, .int .i64 b.m, .int .i64 b.r] := by
  rw [bcells_append]
  rfl
theorem take_mem {l : List Int} {q : Nat} {x : Int} (hq : q < l.length) : x ∈ l.take (q + 1) ↔ x ∈ l.take q ∨ x = l[q] := by
  rw [List.take_succ_eq_append_getElem hq, List.mem_append, List.mem_singleton]

set_option maxRecDepth 100000 in
set_option maxHeartbeats 2000000 in
theorem taken_any (N : Int) (A : Option Addr) (c : Nat) (bs : List Ln.Bd) (A2 : Option Addr) (c2 : Nat) (l : List Int) (w : World) (hR : Rd w w.heap.size 4 A bs.length (bcells bs)) (hL : Rd w w.heap.size 1 A2 l.length (ints l)) (hbl : bs.length ≤ 1000000) (hll : l.length ≤ 1000000) :
    Calls Try.prog 36 #[.agg #[.int .i64 N, .slice A bs.length c], .slice A2 l.length c2] w fun e w' => ∃ A' c', e = .returned (.agg #[.int .i64 N, .slice A' (Ln.takF bs l).length c']) ∧ Rd w' w'.heap.size 4 A' (Ln.takF bs l).length (bcells (Ln.takF bs l)) ∧ Below w.heap.size w w' := by
  obtain ⟨i0, hi0, hz0, hz1, hz2⟩ := info_parts info69'
  have hB0 : Below w.heap.size w (((w.alloc (.cells #[.int .i64 N, .slice A bs.length c] 24)).alloc (.cells #[.int .i64 0, .slice none 0 0] 24)).alloc (.cells #[.int .i64 N, .slice none 0 0] 24)) := (((Below.refl _ _).alloc (Nat.le_refl _) _).alloc (by simp) _).alloc (by simp; omega) _
  have kS := ((Bk.new w 24 #[.int .i64 N, .slice A bs.length c]).alloc (.cells #[.int .i64 0, .slice none 0 0] 24)).alloc (.cells #[.int .i64 N, .slice none 0 0] 24)
  have kT := (Bk.new (w.alloc (.cells #[.int .i64 N, .slice A bs.length c] 24)) 24 #[.int .i64 0, .slice none 0 0]).alloc (.cells #[.int .i64 N, .slice none 0 0] 24)
  have kL := Bk.new ((w.alloc (.cells #[.int .i64 N, .slice A bs.length c] 24)).alloc (.cells #[.int .i64 0, .slice none 0 0] 24)) 24 #[.int .i64 N, .slice none 0 0]
  have hsz : (((w.alloc (.cells #[.int .i64 N, .slice A bs.length c] 24)).alloc (.cells #[.int .i64 0, .slice none 0 0] 24)).alloc (.cells #[.int .i64 N, .slice none 0 0] 24)).heap.size = w.heap.size + 1 + 1 + 1 := by simp
  rw [World.size_alloc] at kT
  rw [World.size_alloc, World.size_alloc] at kL
  have REL := Lib.hid (And.intro hB0 (And.intro kT (And.intro kL hsz)))
  clear hB0 kT kL kS hsz
  go_enter Try.func36, Try.ntmps36
  go_wp2_with fail
  obtain ⟨hB0, kT, kL, hsz⟩ := REL.out
  obtain ⟨W, hW⟩ : ∃ W, ((w.alloc (.cells #[.int .i64 N, .slice A bs.length c] 24)).alloc (.cells #[.int .i64 0, .slice none 0 0] 24)).alloc (.cells #[.int .i64 N, .slice none 0 0] 24) = W := ⟨_, rfl⟩
  rw [hW] at hB0 kT kL hsz ⊢
  obtain ⟨sb, hsb⟩ : ∃ sb, w.heap.size = sb := ⟨_, rfl⟩
  have HSB := Lib.hid hsb
  rw [hsb] at hB0 kT kL hsz ⊢
  have hRs : Rd w sb 4 A bs.length (bcells bs) := by rw [← hsb]; exact hR
  have hLs : Rd w sb 1 A2 l.length (ints l) := by rw [← hsb]; exact hL
  clear REL hW hsb hR hL hsz
  go_loopw [17] (fun i W => ∃ (k : Nat) (V : Value), k ≤ bs.length ∧ i = .int .i64 k ∧ Bk W (sb + 1 + 1) 24 #[.int .i64 N, V] ∧ W.ownsRow (sb + 3) 52 4 V (Ln.takK bs l k).length (bcells (Ln.takK bs l k)) ∧ Bk W (sb + 1) 24 #[.int .i64 0, .slice none 0 0] ∧ Below sb w W)
    (fun i _ => bs.length - (intOf i).toNat)
  case atStart => exact ⟨0, _, Nat.zero_le _, rfl, kL, own_none _ _ _, kT, hB0⟩
  case round =>
    clear hB0 kT kL
    obtain ⟨k, V, hk, rfl, kL, hO, kT, hB⟩ := hrel
    have lL := kL.lt
    have lT := kT.lt
    by_cases hkl : k < bs.length
    · have hk0 : (0 : Int) ≤ (k : Int) := Int.natCast_nonneg _
      have hk1 : (k : Int) < bs.length := by omega
      obtain ⟨b, off, rfl, hb, e0, e1, e2, e3⟩ := (hRs.below hB (Nat.le_refl _)).bound hkl
      have htl := Ln.takK_length bs l k
      have hbd := Ln.bd_eq hkl
      obtain ⟨⟨bf, bt, bm, br, bg⟩, hx⟩ : ∃ x, bs[k] = x := ⟨_, rfl⟩
      rw [hx] at e0 e1 e2 e3 hbd
      dsimp only at e0 e1 e2 e3
      have HBD := Lib.hid hbd
      have hB1 := hB.alloc (by omega) (.cells #[.int .i64 bf, .int .i64 bt, .int .i64 bm, .int .i64 br] 52)
      have REL := Lib.hid (And.intro (kL.alloc (.cells #[.int .i64 bf, .int .i64 bt, .int .i64 bm, .int .i64 br] 52)) (And.intro (hO.alloc (.cells #[.int .i64 bf, .int .i64 bt, .int .i64 bm, .int .i64 br] 52)) (And.intro (kT.alloc (.cells #[.int .i64 bf, .int .i64 bt, .int .i64 bm, .int .i64 br] 52)) (And.intro hB1 (Bk.new wr 52 #[.int .i64 bf, .int .i64 bt, .int .i64 bm, .int .i64 br])))))
      clear hx hbd kL hO kT hB hB1
      go_wp2_with fail
      obtain ⟨kL, hO, kT, hB, kX⟩ := REL.out
      obtain ⟨X, hX⟩ : ∃ X, wr.heap.size = X := ⟨_, rfl⟩
      obtain ⟨W1, hW1⟩ : ∃ W1, wr.alloc (.cells #[.int .i64 bf, .int .i64 bt, .int .i64 bm, .int .i64 br] 52) = W1 := ⟨_, rfl⟩
      rw [hX] at kX lL lT ⊢
      rw [hW1] at kL hO kT hB kX ⊢
      clear REL hX hW1 e0 e1 e2 e3
      go_loopw [8, 24] (fun G i W => ∃ q : Nat, q ≤ l.length ∧ i = .int .i64 q ∧ G = .bool (decide ((k : Int) ∈ l.take q)) ∧ W = W1)
        (fun _ i _ => l.length - (intOf i).toNat)
      case atStart => exact ⟨0, Nat.zero_le _, rfl, by simp, rfl⟩
      case round =>
        obtain ⟨q, hq, rfl, rfl, rfl⟩ := hrel
        have lX := kX.lt
        by_cases hql : q < l.length
        · have hq0 : (0 : Int) ≤ (q : Int) := Int.natCast_nonneg _
          have hq1 : (q : Int) < l.length := by omega
          obtain ⟨b2, o2, rfl, hb2, f0⟩ := hLs.one hql
          have f1 := (hB.cell (p := ⟨b2, o2 + q, none⟩) hb2).trans f0
          have hbw : b2 < wr.heap.size := by have := hB.size; have := kL.lt; omega
          have htm := @take_mem l q (k : Int) hql
          obtain ⟨x, hx⟩ : ∃ x, l[q] = x := ⟨_, rfl⟩
          rw [hx] at f0 f1 htm
          have HTM := Lib.hid htm
          clear hx htm f0
          rcases hin : decide ((k : Int) ∈ l.take q) with _ | _
          · rcases heq : ((k : Int) == x) with _ | _
            · have hno : decide ((k : Int) ∈ l.take (q + 1)) = false := by
                rw [decide_eq_false_iff_not, HTM.out]
                rintro (h | h)
                · rw [decide_eq_false_iff_not] at hin; exact hin h
                · rw [h] at heq; simp at heq
              have HNO := Lib.hid hno
              clear hno
              go_wp2_with fail
              go_roundw
              case rel => exact ⟨q + 1, by omega, by go_num, by rw [HNO.out], by first | rfl | trivial⟩
              case measure => simp [intOf]; omega
            · have hno : decide ((k : Int) ∈ l.take (q + 1)) = true := by
                rw [decide_eq_true_iff, HTM.out]
                exact .inr (by simpa using heq)
              have HNO := Lib.hid hno
              clear hno
              go_wp2_with fail
              go_roundw
              case rel => exact ⟨q + 1, by omega, by go_num, by rw [HNO.out], by first | rfl | trivial⟩
              case measure => simp [intOf]; omega
          · have hno : decide ((k : Int) ∈ l.take (q + 1)) = true := by
              rw [decide_eq_true_iff, HTM.out]
              exact .inl (by rw [decide_eq_true_iff] at hin; exact hin)
            have HNO := Lib.hid hno
            clear hno
            go_wp2_with fail
            go_roundw
            case rel => exact ⟨q + 1, by omega, by go_num, by rw [HNO.out], by first | rfl | trivial⟩
            case measure => simp [intOf]; omega
        · obtain rfl : q = l.length := by omega
          rw [List.take_length]
          have c0 := (kX.cell 0).trans rfl
          have c1 := (kX.cell 1).trans rfl
          have c2 := (kX.cell 2).trans rfl
          have c3 := (kX.cell 3).trans rfl
          have d1 := (kL.cell 1).trans rfl
          have g1 := kL.frozen 1
          have lL1 := kL.lt
          rcases hin : decide ((k : Int) ∈ l) with _ | _
          · have hnin : (k : Int) ∉ l := by simpa using hin
            have hst := Ln.takK_hit (bs := bs) hnin
            rw [HBD.out] at hst
            have HST := Lib.hid hst
            obtain ⟨m, hm⟩ : ∃ m, (Ln.takK bs l k).length = m := ⟨_, rfl⟩
            rw [hm] at hO htl
            have HM := Lib.hid hm
            clear hnin hst hm hin
            have hO2 := hO.alloc (.cells #[.int .i64 bf, .int .i64 bt, .int .i64 bm, .int .i64 br] 52)
            have hnw := heap_alloc_new wr (.cells #[.int .i64 bf, .int .i64 bt, .int .i64 bm, .int .i64 br] 52)
            have hBs : sb ≤ wr.heap.size := by have := hB.size; have := HSB.out; omega
            go_wp2_with (at_builtin; refine wpList_append_lies _ rfl _ _ 22 rfl (sb + 3) 52 i0 _ 4 32 Try.underlying22 hi0 hz0 hz1 hz2 rfl (by omega) V _ _ rfl hO2 ⟨wr.heap.size, 0, none⟩ 1 1 [.int .i64 bf, .int .i64 bt, .int .i64 bm, .int .i64 br] rfl rfl (World.news_of_block (cs := #[.int .i64 bf, .int .i64 bt, .int .i64 bm, .int .i64 br]) (t := 52) (fr := (0, 0)) hnw) (by simp [Value.oneCell']) (by omega) (by unfold maxLen; omega) (by omega) (by simp; omega) (wr.heap.size + 1) (by simp) ?_; intro gg cap w2 hown hgrow hat hlt2; have kL2 := (kL.alloc (.cells #[.int .i64 bf, .int .i64 bt, .int .i64 bm, .int .i64 br] 52)).grown hgrow (off_neN hO2 (by omega)); have q1 := (kL2.cell 1).trans rfl; have qf := kL2.frozen 1; have ql := kL2.lt)
            have kT2 := (kT.alloc (.cells #[.int .i64 bf, .int .i64 bt, .int .i64 bm, .int .i64 br] 52)).grown hgrow (off_neN hO2 (by omega))
            have hB2 := (hB.alloc hBs (.cells #[.int .i64 bf, .int .i64 bt, .int .i64 bm, .int .i64 br] 52)).grown hgrow (by simp; omega) (fun j e => by have := (hO2.lt j e).1; omega)
            have REL := Lib.hid (And.intro (kL2.set 1 (.slice (some ⟨gg, 0, none⟩) (m + 1) cap)) (And.intro (hown.kept (grown_setCell w2 ⟨sb + 1 + 1, 1, none⟩ (.slice (some ⟨gg, 0, none⟩) (m + 1) cap)) (own_offN hown (show sb + 1 + 1 < sb + 3 by omega))) (And.intro (kT2.far (p := ⟨sb + 1 + 1, 1, none⟩) (by simp) (.slice (some ⟨gg, 0, none⟩) (m + 1) cap)) (hB2.setCell (p := ⟨sb + 1 + 1, 1, none⟩) (by simp; omega) (.slice (some ⟨gg, 0, none⟩) (m + 1) cap)))))
            clear kL hO kT hB kX hO2 hnw hgrow hown kL2 kT2 hB2 c0 c1 c2 c3 d1 g1 q1 qf
            go_roundw
            case rel =>
              obtain ⟨a1, a2, a3, a4⟩ := REL.out
              refine ⟨k + 1, _, by omega, by go_num, a1, ?_, a3, a4⟩
              rw [HST.out, List.length_append, HM.out, bcells_snoc]
              exact a2
            case measure => simp [intOf]; omega
          · have hyin : (k : Int) ∈ l := by simpa using hin
            have hst := Ln.takK_miss (bs := bs) hyin
            have HST := Lib.hid hst
            have REL := Lib.hid (And.intro kL (And.intro hO (And.intro kT hB)))
            clear kL hO kT hB kX hst hyin hin c0 c1 c2 c3 d1 g1
            go_wp2_with fail
            go_roundw
            case rel =>
              obtain ⟨a1, a2, a3, a4⟩ := REL.out
              exact ⟨k + 1, V, by omega, by go_num, a1, by rw [HST.out]; exact a2, a3, a4⟩
            case measure => simp [intOf]; omega
    · obtain rfl : k = bs.length := by omega
      rw [show Ln.takK bs l bs.length = Ln.takF bs l from rfl] at hO
      obtain ⟨A', c', rfl, hrd, hnew⟩ := ownB_rd hO (bcells_length _)
      have d0 := (kT.cell 0).trans rfl
      have d1 := (kT.cell 1).trans rfl
      have g0 := kT.frozen 0
      have g1 := kT.frozen 1
      have q0 := (kL.cell 0).trans rfl
      have q1 := (kL.cell 1).trans rfl
      have k5 := (kT.set 0 (.int .i64 N)).set 1 (.slice A' (Ln.takF bs l).length c')
      have hB5 := (hB.setCell (p := ⟨sb + 1, 0, none⟩) (by simp) (.int .i64 N)).setCell (p := ⟨sb + 1, 1, none⟩) (by simp) (.slice A' (Ln.takF bs l).length c')
      have hO5 := (hO.kept (grown_setCell wr ⟨sb + 1, 0, none⟩ (.int .i64 N)) (own_offN hO (show sb + 1 < sb + 3 by omega))).kept (grown_setCell _ ⟨sb + 1, 1, none⟩ (.slice A' (Ln.takF bs l).length c')) (own_offN hO (show sb + 1 < sb + 3 by omega))
      have K5 := Lib.hid (And.intro k5 (And.intro hO5 hB5))
      clear k5 hO5 hB5 hO hrd hnew
      go_wp2_with fail
      refine bodyPost_ret (v := .agg #[.int .i64 N, .slice A' (Ln.takF bs l).length c']) (results_cell_row rfl _ _ (sb + 1) 24 _ (0, 0) _ rfl K5.out.1 Try.underlying24 rfl (by kernel_rfl)) rfl ?_
      obtain ⟨A3, c3, e3, hrd⟩ := own_read K5.out.2.1
      cases e3
      exact ⟨A', c', rfl, hrd, by rw [HSB.out]; exact K5.out.2.2⟩

theorem flags_at {w : World} {B : Nat} {A : Option Addr} {l : List Bool} (h : Rd w B 1 A l.length (flags l)) {k : Nat} (hk : k < l.length) : ∃ b off, A = some ⟨b, off, none⟩ ∧ b < B ∧ w.cell? ⟨b, off + k, none⟩ = some (.bool l[k]) := by
  obtain ⟨b, off, e, hb, hc⟩ := h.2 (by omega)
  exact ⟨b, off, e, hb, by rw [hc k (by omega)]; simp [flags, hk]⟩

set_option maxRecDepth 100000 in
set_option maxHeartbeats 1000000 in
theorem sameFlags_two (A1 : Option Addr) (c1 : Nat) (a : List Bool) (A2 : Option Addr) (c2 : Nat) (b : List Bool) (w : World) (hA : Rd w w.heap.size 1 A1 a.length (flags a)) (hB : Rd w w.heap.size 1 A2 b.length (flags b)) (hl : a.length = b.length) (hla : a.length ≤ 1000000) :
    Calls Try.prog 76 #[.slice A1 a.length c1, .slice A2 b.length c2] w fun e w' => e = .returned (.bool (decide (a = b))) ∧ Below w.heap.size w w' := by
  have hne : ((a.length : Int) != (b.length : Int)) = false := by simp; omega
  have HL := Lib.hid hl
  clear hl
  go_enter Try.func76, Try.ntmps76
  go_wp2_with fail
  go_loopw [5] (fun i wr => ∃ k : Nat, k ≤ a.length ∧ i = .int .i64 k ∧ a.take k = b.take k ∧ Below w.heap.size w wr)
    (fun i _ => a.length - (intOf i).toNat)
  case atStart => exact ⟨0, Nat.zero_le _, rfl, rfl, Below.refl _ _⟩
  case round =>
    obtain ⟨k, hk, rfl, ha, hBw⟩ := hrel
    have hkb := HL.out
    by_cases hkl : k < a.length
    · have hkl2 : k < b.length := by omega
      obtain ⟨ba, oa, rfl, _, ea⟩ := flags_at (hA.below hBw (Nat.le_refl _)) hkl
      obtain ⟨bb, ob, rfl, _, eb⟩ := flags_at (hB.below hBw (Nat.le_refl _)) hkl2
      have htk : a[k] = b[k] → a.take (k + 1) = b.take (k + 1) := fun e => by rw [List.take_succ_eq_append_getElem hkl, List.take_succ_eq_append_getElem hkl2, ha, e]
      have hno : a[k] ≠ b[k] → decide (a = b) = false := fun e => by
        rw [decide_eq_false_iff_not]
        rintro rfl
        exact e rfl
      obtain ⟨x, hx⟩ : ∃ x, a[k] = x := ⟨_, rfl⟩
      obtain ⟨y, hy⟩ : ∃ y, b[k] = y := ⟨_, rfl⟩
      rw [hx] at ea hno htk
      rw [hy] at eb hno htk
      have HN := Lib.hid hno
      have HT := Lib.hid htk
      clear hno htk hx hy ha hkb
      rcases x with _ | _ <;> rcases y with _ | _
      · go_wp2_with fail
        go_quiet (fail)
        go_wp2_with fail
        go_roundw
        case rel => exact ⟨k + 1, by omega, by go_num, HT.out (by simp), below_drewN hBw _⟩
        case measure => simp [intOf]; omega
      · go_wp2_with fail
        go_quiet (fail)
        go_wp2_with fail
        go_ret
        exact ⟨ret_bool (HN.out (by simp)).symm, below_drewN hBw _⟩
      · go_wp2_with fail
        go_quiet (fail)
        go_wp2_with fail
        go_ret
        exact ⟨ret_bool (HN.out (by simp)).symm, below_drewN hBw _⟩
      · go_wp2_with fail
        go_quiet (fail)
        go_wp2_with fail
        go_roundw
        case rel => exact ⟨k + 1, by omega, by go_num, HT.out (by simp), below_drewN hBw _⟩
        case measure => simp [intOf]; omega
    · go_wp2_with fail
      go_ret
      obtain rfl : k = a.length := by omega
      refine ⟨ret_bool ?_, hBw⟩
      have h := HL.out
      rw [List.take_length, h, List.take_length] at ha
      simp [ha]

namespace Ln
/-- Two systems whose distances are not the same. -/
structure Other (N : Int) (bs : List Bd) (M : Int) (cs : List Bd) : Prop where
  fine : ∀ k : Nat, k < N.toNat → (dsF N bs k).2.2 = 0 ∧ (dsF M cs k).2.2 = 0
  size : ∀ k : Nat, k < N.toNat → (dsF N bs k).1.length = (dsF M cs k).1.length ∧ (dsF N bs k).2.1.length = (dsF M cs k).2.1.length ∧ (dsF N bs k).1.length ≤ 128 ∧ (dsF N bs k).2.1.length ≤ 128
  not : ∃ k : Nat, k < N.toNat ∧ ¬ ((dsF M cs k).1 = (dsF N bs k).1 ∧ (dsF M cs k).2.1 = (dsF N bs k).2.1)
end Ln

set_option maxRecDepth 100000 in
set_option maxHeartbeats 2000000 in
theorem alike_no (N : Int) (A : Option Addr) (c : Nat) (bs : List Ln.Bd) (M : Int) (A2 : Option Addr) (c2 : Nat) (cs : List Ln.Bd) (w : World) (hR : Rd w w.heap.size 4 A bs.length (bcells bs)) (hR2 : Rd w w.heap.size 4 A2 cs.length (bcells cs))
    (hc : Ln.Lv bs) (hc2 : Ln.Lv cs) (h0 : 0 ≤ N) (h1 : N ≤ 128) (hal : Ln.Other N bs M cs) :
    Calls Try.prog 37 #[.agg #[.int .i64 N, .slice A bs.length c], .agg #[.int .i64 M, .slice A2 cs.length c2]] w fun e w' => e = .returned (.bool false) ∧ Below w.heap.size w w' := by
  obtain ⟨s0, t0⟩ := two_sys2 N A c bs M A2 c2 cs w hR hR2
  obtain ⟨n, rfl⟩ : ∃ n : Nat, N = n := ⟨N.toNat, by omega⟩
  have HAL := Lib.hid hal
  clear hal
  obtain ⟨c0, c1, cl⟩ := s0.cells
  go_enter Try.func37, Try.ntmps37
  go_wp2_with fail
  go_loopw [14] (fun i wr => ∃ k : Nat, k ≤ n ∧ i = .int .i64 k ∧ (∀ j : Nat, j < k → (Ln.dsF M cs j).1 = (Ln.dsF (n : Int) bs j).1 ∧ (Ln.dsF M cs j).2.1 = (Ln.dsF (n : Int) bs j).2.1) ∧ Sy w wr w.heap.size n A c bs ∧ Sy w wr (w.heap.size + 1) M A2 c2 cs)
    (fun i _ => n - (intOf i).toNat)
  case atStart => exact ⟨0, Nat.zero_le _, rfl, fun j hj => by omega, s0, t0⟩
  case round =>
    clear s0 t0 c0 c1 cl
    obtain ⟨k, hk, rfl, hall, s1, t1⟩ := hrel
    have HALL := Lib.hid hall
    clear hall
    by_cases hkl : k < n
    · have hk0 : (0 : Int) ≤ (k : Int) := Int.natCast_nonneg _
      have hk1 : (k : Int) < n := by omega
      obtain ⟨hf1, hf2⟩ := HAL.out.fine k (by omega)
      obtain ⟨hz1, hz2, hz3, hz4⟩ := HAL.out.size k (by omega)
      have hd1 := fun w h => ldistances_any (n : Int) A c bs k w h hc
      have hd2 := fun w h => ldistances_any M A2 c2 cs k w h hc2
      have hadd : ∀ r r', Ln.dsF (n : Int) bs k = r → Ln.dsF M cs k = r' → r'.1 = r.1 → r'.2.1 = r.2.1 → ∀ j : Nat, j < k + 1 → (Ln.dsF M cs j).1 = (Ln.dsF (n : Int) bs j).1 ∧ (Ln.dsF M cs j).2.1 = (Ln.dsF (n : Int) bs j).2.1 := fun r r' e1 e2 e3 e4 j hj => by
        by_cases e : j = k
        · subst e
          rw [e1, e2]
          exact ⟨e3, e4⟩
        · exact HALL.out j (by omega)
      obtain ⟨r, hr⟩ : ∃ r, Ln.dsF (n : Int) bs k = r := ⟨_, rfl⟩
      obtain ⟨r', hr'⟩ : ∃ r, Ln.dsF M cs k = r := ⟨_, rfl⟩
      rw [hr] at hf1 hd1 hz1 hz2 hz3 hz4
      rw [hr'] at hf2 hd2 hz1 hz2
      have hadd := hadd r r' hr hr'
      obtain ⟨dl, df, de⟩ := r
      obtain ⟨dl', df', de'⟩ := r'
      dsimp only at hf1 hf2 hd1 hd2 hz1 hz2 hz3 hz4 hadd
      subst hf1
      subst hf2
      have hz5 : dl'.length ≤ 128 := by omega
      have HZ2 := Lib.hid hz2
      clear hz1 hz2
      have HD1 := Lib.hid hd1
      have HD2 := Lib.hid hd2
      have HADD := Lib.hid hadd
      clear hd1 hd2 hr hr' hadd
      obtain ⟨c0, c1, cl⟩ := s1.cells
      go_wp2_with fail
      refine (HD1.out _ s1.rd).mono ?_
      rintro e w2 ⟨A3, c3, A4, c4, rfl, r3, r4, hb2⟩
      have s2 := s1.step hb2
      have t2 := t1.step hb2
      clear c0 c1 cl
      obtain ⟨c0, c1, cl⟩ := t2.cells
      go_wp2_with fail
      refine (HD2.out _ t2.rd).mono ?_
      rintro e w3 ⟨A5, c5, A6, c6, rfl, r5, r6, hb3⟩
      have s3 := s2.step hb3
      have t3 := t2.step hb3
      have r3' := (r3.below hb3 (Nat.le_refl _)).more hb3.size
      have r4' := (r4.below hb3 (Nat.le_refl _)).more hb3.size
      clear c0 c1 cl r3 r4
      have hsm := sameInts_any A3 c3 dl A5 c5 dl' w3 r3' r5 (by omega) (by omega)
      rcases hsi : sameI dl dl' with _ | _
      · rw [hsi] at hsm
        have HSM := Lib.hid hsm
        clear hsm r3' r5
        go_wp2_with fail
        refine HSM.out.mono ?_
        rintro e w4 ⟨rfl, hb4⟩
        have s4 := s3.step hb4
        go_wp2_with fail
        go_ret
        exact ⟨rfl, s4.bl⟩
      · rw [hsi] at hsm
        have HSM := Lib.hid hsm
        have HSI := Lib.hid hsi
        clear hsm r3' r5 hsi
        go_wp2_with fail
        refine HSM.out.mono ?_
        rintro e w4 ⟨rfl, hb4⟩
        have s4 := s3.step hb4
        have t4 := t3.step hb4
        have hsf := sameFlags_two A4 c4 df A6 c6 df' w4 ((r4'.below hb4 (Nat.le_refl _)).more hb4.size) ((r6.below hb4 (Nat.le_refl _)).more hb4.size) HZ2.out (by omega)
        clear r4' r6
        rcases hfl : decide (df = df') with _ | _
        · rw [hfl] at hsf
          have HSF := Lib.hid hsf
          clear hsf
          go_wp2_with fail
          refine HSF.out.mono ?_
          rintro e w5 ⟨rfl, hb5⟩
          have s5 := s4.step hb5
          go_wp2_with fail
          go_ret
          exact ⟨rfl, s5.bl⟩
        · rw [hfl] at hsf
          have HSF := Lib.hid hsf
          have HFL := Lib.hid hfl
          clear hsf hfl
          go_wp2_with fail
          refine HSF.out.mono ?_
          rintro e w5 ⟨rfl, hb5⟩
          have s5 := s4.step hb5
          have t5 := t4.step hb5
          go_wp2_with fail
          go_roundw
          case rel =>
            have e1 : dl' = dl := by
              have := HSI.out
              unfold sameI at this
              exact (of_decide_eq_true this).symm
            have e2 : df' = df := (of_decide_eq_true HFL.out).symm
            exact ⟨k + 1, by omega, by go_num, HADD.out e1 e2, s5, t5⟩
          case measure => simp [intOf]; omega
    · exfalso
      obtain ⟨j, hj, hj2⟩ := HAL.out.not
      exact hj2 (HALL.out j (by omega))

end Go.Proofs.Ytdndhfggdjphjaa
