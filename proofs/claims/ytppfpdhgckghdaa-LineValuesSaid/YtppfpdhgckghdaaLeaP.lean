/-
  slices.Contains, Clone; Greatest; mirrored, Least.
-/
import Derived.Test.YtppfpdhgckghdaaGre
import Derived.Test.YtppfpdhgckghdaaApo
import Derived.Test.YtppfpdhgckghdaaWo
import Derived.Test.YtppfpdhgckghdaaSome
import Derived.Test.YtppfpdhgckghdaaBetw
import Derived.Deep.QuietTactic
import Derived.BigQuiet
import Derived.Deep.RegionHeld3
set_option linter.unusedVariables false
set_option linter.unusedSimpArgs false
namespace Go.Proofs.Ytppfpdhgckghdaa
open Go.RowKit Go.Shelf

theorem own_base {w : World} {base base' : Nat} {e : TypeId} {size : Nat} {v : Value} {n : Nat} {xs : List Value} (h : w.ownsRow base e size v n xs) (hb : base' ≤ base) : w.ownsRow base' e size v n xs :=
  ⟨h.1, h.2.imp id fun ⟨g, cap, cur, e1, e2, e3⟩ => ⟨g, cap, cur, e1, Nat.le_trans hb e2, e3⟩⟩

set_option maxHeartbeats 1000000 in
theorem index_any (A : Option Addr) (c : Nat) (l : List Int) (x : Int) (w : World) (hR : Rd w w.heap.size 1 A l.length (ints l)) (hl : l.length ≤ 1000000) :
    Calls Try.prog 105 #[.slice A l.length c, .int .i64 x] w fun e w' => ∃ r : Int, e = .returned (.int .i64 r) ∧ decide (0 ≤ r) = decide (x ∈ l) ∧ Below w.heap.size w w' := by
  go_enter Try.func105, Try.ntmps105
  go_wp2_with fail
  go_loopw [8] (fun i wr => ∃ k : Nat, k ≤ l.length ∧ i = .int .i64 k ∧ x ∉ l.take k ∧ Below w.heap.size w wr)
    (fun i _ => l.length - (intOf i).toNat)
  case atStart => exact ⟨0, Nat.zero_le _, rfl, by simp, Below.refl _ _⟩
  case round =>
    obtain ⟨k, hk, rfl, hno, hB⟩ := hrel
    by_cases hkl : k < l.length
    · obtain ⟨b, off, rfl, _, e0⟩ := (hR.below hB (Nat.le_refl _)).one hkl
      have htk := List.take_succ_eq_append_getElem hkl
      have hmem : l[k] ∈ l := List.getElem_mem hkl
      obtain ⟨y, hy⟩ : ∃ y, l[k] = y := ⟨_, rfl⟩
      rw [hy] at e0 htk hmem
      have HTK := Lib.hid htk
      have HMEM := Lib.hid hmem
      have HNO := Lib.hid hno
      clear htk hmem hy hno
      rcases hxy : (x == y) with _ | _
      · go_wp2_with fail
        go_roundw
        case rel =>
          refine ⟨k + 1, by omega, by go_num, ?_, hB⟩
          rw [HTK.out, List.mem_append, not_or]
          exact ⟨HNO.out, by simp; simpa using hxy⟩
        case measure => simp [intOf]; omega
      · have HXY := Lib.hid hxy
        go_wp2_with fail
        go_ret
        refine ⟨k, rfl, ?_, hB⟩
        have hx : x = y := by simpa using HXY.out
        rw [hx]
        simp [HMEM.out]
    · have hke : k = l.length := by omega
      have HNO := Lib.hid hno
      clear hno
      go_wp2_with fail
      go_ret
      refine ⟨-1, rfl, ?_, hB⟩
      have := HNO.out
      rw [hke, List.take_length] at this
      simp [this]

set_option maxHeartbeats 1000000 in
theorem contains_any (A : Option Addr) (c : Nat) (l : List Int) (x : Int) (w : World) (hR : Rd w w.heap.size 1 A l.length (ints l)) (hl : l.length ≤ 1000000) :
    Calls Try.prog 75 #[.slice A l.length c, .int .i64 x] w fun e w' => e = .returned (.bool (decide (x ∈ l))) ∧ Below w.heap.size w w' := by
  go_enter Try.func75, Try.ntmps75
  go_wp2_with fail
  refine (index_any A c l x _ hR hl).mono ?_
  rintro e w1 ⟨r, rfl, hr, hb⟩
  have HR := Lib.hid hr
  clear hr
  go_wp2_with fail
  go_ret
  exact ⟨ret_bool HR.out, hb⟩

theorem cloneI_any (A : Option Addr) (c : Nat) (l : List Int) (w : World) (hR : Rd w w.heap.size 1 A l.length (ints l)) (hl : l.length ≤ 1000000) :
    Calls Try.prog 76 #[.slice A l.length c] w fun e w' => ∃ V, e = .returned V ∧ w'.ownsRow w.heap.size 3 1 V l.length (ints l) ∧ Below w.heap.size w w' := by
  rcases A with _ | a
  · have h0 : l = [] := by
      by_cases h : 0 < l.length
      · obtain ⟨b, off, e, _⟩ := hR.2 h
        cases e
      · exact List.eq_nil_of_length_eq_zero (by omega)
    subst h0
    refine (Any.slices_Clone_int_nil Try.laysClone 0 c w).mono ?_
    rintro e w' ⟨rfl, rfl⟩
    exact ⟨_, rfl, own_none _ _ _, Below.refl _ _⟩
  · by_cases h : 0 < l.length
    · obtain ⟨b, off, e, hb, hcell⟩ := hR.2 h
      cases e
      refine (Any.slices_Clone_int Try.laysClone b off l.length c l w (Nat.le_refl _) (by omega) (fun j hj => ?_)).mono ?_
      · rw [hcell j (by omega)]
        simp [ints, hj]
      · rintro e w' ⟨v', rfl, hown, _, hb'⟩
        rw [List.take_of_length_le (Nat.le_refl _)] at hown
        exact ⟨v', rfl, hown, hb'⟩
    · have h0 : l = [] := List.eq_nil_of_length_eq_zero (by omega)
      subst h0
      refine (Any.slices_Clone_int_zero Try.laysClone a c w).mono ?_
      rintro e w' ⟨v', rfl, hown, _, hb'⟩
      exact ⟨v', rfl, hown, hb'⟩

set_option maxRecDepth 100000 in
set_option maxHeartbeats 1000000 in
theorem cloneB_any (A : Option Addr) (c : Nat) (bs : List Ln.Bd) (w : World) (hR : Rd w w.heap.size 4 A bs.length (bcells bs)) (hl : bs.length ≤ 1000000) :
    Calls Try.prog 106 #[.slice A bs.length c] w fun e w' => ∃ V, e = .returned V ∧ w'.ownsRow w.heap.size 63 4 V bs.length (bcells bs) ∧ Below w.heap.size w w' := by
  obtain ⟨i0, hi0, hz0, hz1, hz2⟩ := info_parts info69'
  have q22 : ∀ (w : World) (a : Option Addr) (n c n' c' : Nat), (binOp .eql 22 (.slice a n c) (.slice none n' c')).run Try.prog w = .ok (.bool a.isNone) w := fun w a n c n' c' => Lib.run_eql_slice_nil w _ _ a n c n' c' Try.underlying22
  rcases A with _ | a
  · have h0 : bs = [] := by
      by_cases h : 0 < bs.length
      · obtain ⟨b, off, e, _⟩ := hR.2 h
        cases e
      · exact List.eq_nil_of_length_eq_zero (by omega)
    subst h0
    go_enter Try.func106, Try.ntmps106
    go_wp2_with fail
    go_ret
    exact ⟨_, rfl, own_none _ _ _, Below.refl _ _⟩
  · have hown0 : (w.alloc (.cells #[] 63)).ownsRow w.heap.size 63 4 (.slice (some ⟨w.heap.size, 0, none⟩) 0 0) 0 [] := World.ownsRow_lit w #[] 0 (Nat.le_refl _) (by unfold maxLen; omega) rfl
    have hB0 : Below w.heap.size w (w.alloc (.cells #[] 63)) := (Below.refl _ _).alloc (Nat.le_refl _) _
    have hR1 := (hR.below hB0 (Nat.le_refl _)).more hB0.size
    go_enter Try.func106, Try.ntmps106
    go_wp2_with (at_builtin; refine wpList_append_rd rfl _ _ 22 rfl w.heap.size 63 i0 _ 4 32 Try.underlying22 hi0 hz0 hz1 hz2 rfl (by omega) (.slice (some ⟨w.heap.size, 0, none⟩) 0 0) 0 [] rfl hown0 (some a) bs.length c _ (bcells bs) rfl hR1 (bcells_one bs) (by unfold maxLen; omega) (by omega) (by simp) ?_; intro v' w2 hown hgrow hat)
    go_ret
    rw [Nat.zero_add, List.nil_append] at hown
    exact ⟨v', rfl, hown, hB0.grown hgrow (by simp) (fun j e => by cases e; exact Nat.le_refl _)⟩

set_option maxRecDepth 100000 in
set_option maxHeartbeats 2000000 in
theorem greatest_any (N : Int) (A : Option Addr) (c : Nat) (bs : List Ln.Bd) (w : World) (hR : Rd w w.heap.size 4 A bs.length (bcells bs)) (hc : Ln.Lv bs) :
    Calls Try.prog 32 #[.agg #[.int .i64 N, .slice A bs.length c]] w fun e w' => ∃ V, e = .returned (.tuple #[V, .int .i64 (Ln.grF N bs).2]) ∧ w'.ownsRow w.heap.size 3 1 V (Ln.grF N bs).1.length (ints (Ln.grF N bs).1) ∧ Below w.heap.size w w' := by
  have hB0 : Below w.heap.size w (w.alloc (.cells #[.int .i64 N, .slice A bs.length c] 24)) := (Below.refl _ _).alloc (Nat.le_refl _) _
  have hR1 := (hR.below hB0 (Nat.le_refl _)).more hB0.size
  have k0 := Bk.new w 24 #[.int .i64 N, .slice A bs.length c]
  have hP0 : ∀ w : World, Rd w w.heap.size 1 none ([] : List Int).length (ints []) := fun w => Rd.nil _ _ _ _
  by_cases hs : Ln.soundF N bs [] = 0
  · obtain ⟨hcp, hco, hck⟩ := Ln.sound_zero hs
    obtain ⟨hok, hNt⟩ := Ln.ok_of_check hck
    have htop := hok.top
    have hpos := hok.pos
    have hgr : Ln.grF N bs = if Ln.NONE ∈ (Ln.distF bs N.toNat 0).take N.toNat then ([], 5) else ((Ln.distF bs N.toNat 0).take N.toNat, 0) := by rw [Ln.grF, if_pos hs]
    rw [hgr]
    obtain ⟨n, hn⟩ : ∃ n, N.toNat = n := ⟨_, rfl⟩
    rw [hn] at hok hNt htop hpos ⊢
    subst hNt
    have hrl := (Ln.distF_small hok 0).1
    have hdi := fun B nb A c fr w h1 h2 => distances_any hok B nb A c fr 0 (by omega) w h1 h2
    obtain ⟨row, hrow⟩ : ∃ row, Ln.distF bs n 0 = row := ⟨_, rfl⟩
    rw [hrow] at hrl ⊢
    simp only [hrow] at hdi
    have hlen : (row.take n).length = n := by rw [List.length_take]; omega
    have HS := Lib.hid hs
    have HDI := Lib.hid hdi
    have HRL := Lib.hid hrl
    have HLEN := Lib.hid hlen
    obtain ⟨res, hres⟩ : ∃ res : List Int × Int, (if Ln.NONE ∈ row.take n then ([], 5) else (row.take n, 0)) = res := ⟨_, rfl⟩
    rw [hres]
    have HRES := Lib.hid hres
    clear hs hcp hco hck hgr hrl hdi hrow hres hlen
    go_enter Try.func32, Try.ntmps32
    go_wp2_with fail
    refine (sound_fine (n : Int) A c bs none 0 [] _ hR1 hc (hP0 _) (by simp) HS.out).mono ?_
    rintro e w1 ⟨nb, fr, rfl, hNt, hb1⟩
    rw [hn] at hNt
    have k1 := k0.below hb1 (by simp)
    have hB1 := hB0.trans (hb1.mono hB0.size)
    go_wp2_with fail
    refine (HDI.out _ nb A c fr _ hNt (Nat.le_refl _)).mono ?_
    rintro e w2 ⟨rfl, hb2⟩
    have k2 := k1.below hb2 k1.lt
    have hB2 := hB1.trans (hb2.mono hB1.size)
    have z1 := k2.lt
    have k3 := (k2.alloc (.cells Try.zeroCells87 87)).row_far (k := w2.heap.size) (by omega) (av row)
    have d3 := (Bk.new w2 87 Try.zeroCells87).row (av row)
    have hB3 := (Bk.new w2 87 Try.zeroCells87).below_set (t := 87) hB2.size (av row) (hB2.alloc hB2.size _)
    have c0 := k3.cell 0
    simp only [List.getElem?_toArray, List.getElem?_cons_zero, List.getElem?_cons_succ] at c0
    have s3 : ((w2.alloc (.cells Try.zeroCells87 87)).setRow w2.heap.size (av row)).heap.size = w2.heap.size + 1 := by rw [size_setRow, World.size_alloc]
    have hsl := run_slice_reach w2.heap.size n htop
    have hrd : Rd ((w2.alloc (.cells Try.zeroCells87 87)).setRow w2.heap.size (av row)) ((w2.alloc (.cells Try.zeroCells87 87)).setRow w2.heap.size (av row)).heap.size 1 (some ⟨w2.heap.size, 0, none⟩) (row.take n).length (ints (row.take n)) := by
      refine ⟨by rw [ints_length, Nat.mul_one], fun _ => ⟨w2.heap.size, 0, rfl, by omega, fun j hj => ?_⟩⟩
      rw [HLEN.out, Nat.mul_one] at hj
      rw [Nat.zero_add, d3.cell j, av_at (by rw [HRL.out]; omega), Ln.gt_eq (by rw [HRL.out]; omega)]
      simp only [ints, List.getElem?_map, List.getElem?_take_of_lt hj, List.getElem?_eq_getElem (show j < row.length by rw [HRL.out]; omega)]
      rfl
    have HRD := Lib.hid hrd
    have REL := Lib.hid (And.intro k3 (And.intro hB3 s3))
    clear k0 k1 k2 hB0 hB1 hB2 hb1 hb2 k3 d3 hB3 hrd s3 hNt
    go_wp2_with (refine wpList_store_row rfl 87 (.tmp 6) (.tmp 17) rfl w2.heap.size _ rfl rfl 87 _ (Bk.new w2 _ _) (av_len94 HRL.out) (by rw [zero94]; exact av_same Ln.zeros_length HRL.out) (av_one _) ?_)
    obtain ⟨k3, hB3, s3⟩ := REL.out
    have hrd := HRD.out
    obtain ⟨W3, hW3⟩ : ∃ W3, (w2.alloc (.cells Try.zeroCells87 87)).setRow w2.heap.size (av row) = W3 := ⟨_, rfl⟩
    rw [hW3] at k3 hB3 s3 hrd c0 ⊢
    clear REL HRD hW3
    have hlen := HLEN.out
    have hct := contains_any (some ⟨w2.heap.size, 0, none⟩) 128 (row.take n) 9223372036854775807 W3 hrd (by omega)
    rw [hlen] at hct
    refine hct.mono ?_
    rintro e w4 ⟨rfl, hb4⟩
    have hB4 := hB3.trans (hb4.mono hB3.size)
    have hrd4 := (hrd.below hb4 (Nat.le_refl _)).more hb4.size
    have hcl := cloneI_any (some ⟨w2.heap.size, 0, none⟩) 128 (row.take n) w4 hrd4 (by omega)
    rw [hlen] at hcl
    have HCL := Lib.hid hcl
    clear hct hcl hrd hrd4 c0 hsl k3 hb4
    rcases hin : decide ((9223372036854775807 : Int) ∈ row.take n) with _ | _
    · have HIN := Lib.hid hin
      clear hin hlen
      go_wp2_with fail
      refine HCL.out.mono ?_
      rintro e w5 ⟨V, rfl, hown, hb5⟩
      have hB5 := hB4.trans (hb5.mono hB4.size)
      have hown2 := own_base hown hB4.size
      have HO := Lib.hid (And.intro hown2 hB5)
      clear hown hown2 hB5 hb5
      go_wp2_with fail
      go_ret2
      have hr := HRES.out
      have hn' := HIN.out
      rw [decide_eq_false_iff_not] at hn'
      rw [if_neg (by exact hn')] at hr
      subst hr
      exact ⟨V, rfl, by rw [HLEN.out]; exact HO.out.1, HO.out.2⟩
    · have HIN := Lib.hid hin
      clear hin hlen
      go_wp2_with fail
      go_ret2
      have hr := HRES.out
      have hn' := HIN.out
      rw [decide_eq_true_eq] at hn'
      rw [if_pos (by exact hn')] at hr
      subst hr
      exact ⟨_, rfl, own_none _ _ _, hB4⟩
  · rw [show Ln.grF N bs = ([], Ln.soundF N bs []) from by rw [Ln.grF, if_neg hs]]
    have hne : (Ln.soundF N bs [] != 0) = true := by simp [hs]
    have hcall := sound_err N A c bs none 0 [] _ hR1 hc (hP0 _) (by simp) hs
    obtain ⟨s, hss⟩ : ∃ s, Ln.soundF N bs [] = s := ⟨_, rfl⟩
    rw [hss] at hne hcall ⊢
    have HC := Lib.hid hcall
    clear hs hss hcall
    go_enter Try.func32, Try.ntmps32
    go_wp2_with fail
    refine HC.out.mono ?_
    rintro e w1 ⟨rfl, hb1⟩
    go_wp2_with fail
    go_ret2
    exact ⟨_, rfl, own_none _ _ _, hB0.trans (hb1.mono hB0.size)⟩

end Go.Proofs.Ytppfpdhgckghdaa

namespace Go.Proofs.Ytppfpdhgckghdaa
open Go.RowKit Go.Shelf

namespace Ln
/-- The bounds while they are turned round: k of them. -/
def revK (bs : List Bd) (k : Nat) : List Bd := revs (bs.take k) ++ bs.drop k
theorem revK_zero (bs : List Bd) : revK bs 0 = bs := by simp [revK, revs]
theorem revK_all (bs : List Bd) : revK bs bs.length = revs bs := by simp [revK]
theorem revK_length (bs : List Bd) (k : Nat) : (revK bs k).length = bs.length := by
  unfold revK
  rw [List.length_append, revs_length, List.length_take, List.length_drop]
  omega
end Ln
theorem bcells_turn (bs : List Ln.Bd) {k : Nat} (hk : k < bs.length) : ((bcells (Ln.revK bs k)).set (k * 4) (.int .i64 bs[k].t)).set (k * 4 + 1) (.int .i64 bs[k].f) = bcells (Ln.revK bs (k + 1)) := by
  have hl : (bcells (Ln.revs (bs.take k))).length = k * 4 := by rw [bcells_length, Ln.revs_length, List.length_take]; omega
  have h1 : Ln.revK bs k = Ln.revs (bs.take k) ++ (bs[k] :: bs.drop (k + 1)) := by rw [Ln.revK, List.drop_eq_getElem_cons hk]
  have h2 : Ln.revK bs (k + 1) = Ln.revs (bs.take k) ++ (Ln.rev bs[k] :: bs.drop (k + 1)) := by
    rw [Ln.revK, Ln.revs, List.take_succ_eq_append_getElem hk, List.map_append, List.append_assoc]
    rfl
  have h3 : ∀ (b : Ln.Bd) (l : List Ln.Bd), bcells (b :: l) = .int .i64 b.f :: .int .i64 b.t :: .int .i64 b.m :: .int .i64 b.r :: bcells l := fun b l => by simp [bcells, bcell]
  rw [h1, h2, bcells_append, bcells_append, List.set_append_right _ _ (by omega), List.set_append_right _ _ (by omega), hl, Nat.sub_self, show k * 4 + 1 - k * 4 = 1 from by omega, h3, h3]
  rfl

set_option maxRecDepth 100000 in
set_option maxHeartbeats 2000000 in
theorem mirrored_any (N : Int) (A : Option Addr) (c : Nat) (bs : List Ln.Bd) (w : World) (hR : Rd w w.heap.size 4 A bs.length (bcells bs)) (hl : bs.length ≤ 1000000) :
    Calls Try.prog 77 #[.agg #[.int .i64 N, .slice A bs.length c]] w fun e w' => ∃ A' c', e = .returned (.agg #[.int .i64 N, .slice A' bs.length c']) ∧ Rd w' w'.heap.size 4 A' bs.length (bcells (Ln.revs bs)) ∧ Below w.heap.size w w' := by
  have hB0 : Below w.heap.size w ((w.alloc (.cells #[.int .i64 N, .slice A bs.length c] 24)).alloc (.cells #[.int .i64 0, .slice none 0 0] 24)) := ((Below.refl _ _).alloc (Nat.le_refl _) _).alloc (by simp) _
  have k0 := (Bk.new w 24 #[.int .i64 N, .slice A bs.length c]).alloc (.cells #[.int .i64 0, .slice none 0 0] 24)
  have r0 := Bk.new (w.alloc (.cells #[.int .i64 N, .slice A bs.length c] 24)) 24 #[.int .i64 0, .slice none 0 0]
  rw [World.size_alloc] at r0
  have c0 := k0.cell 0
  have c1 := k0.cell 1
  simp only [List.getElem?_toArray, List.getElem?_cons_zero, List.getElem?_cons_succ] at c0 c1
  have s0 : ((w.alloc (.cells #[.int .i64 N, .slice A bs.length c] 24)).alloc (.cells #[.int .i64 0, .slice none 0 0] 24)).heap.size = w.heap.size + 1 + 1 := by simp
  go_enter Try.func77, Try.ntmps77
  go_wp2_with fail
  obtain ⟨W0, hW0⟩ : ∃ W0, (w.alloc (.cells #[.int .i64 N, .slice A bs.length c] 24)).alloc (.cells #[.int .i64 0, .slice none 0 0] 24) = W0 := ⟨_, rfl⟩
  rw [hW0] at hB0 k0 r0 c0 c1 s0 ⊢
  clear hW0
  obtain ⟨sb, hsb⟩ : ∃ sb, w.heap.size = sb := ⟨_, rfl⟩
  have HSB := Lib.hid hsb
  have hR1 := (hR.below hB0 (Nat.le_refl _)).more hB0.size
  rw [hsb] at hB0 k0 r0 c0 c1 s0 ⊢
  have hRs : Rd w sb 4 A bs.length (bcells bs) := by rw [← hsb]; exact hR
  clear hsb
  have hbZ : Below W0.heap.size W0 W0.drew := (Below.refl _ _).drew
  have hSB : ∀ W, Below W0.heap.size W0 W → W.cell? ⟨sb, 0, none⟩ = some (.int .i64 N) ∧ W.cell? ⟨sb, 1, none⟩ = some (.slice A bs.length c) := fun W hb =>
    ⟨(hb.cell (p := ⟨sb, 0, none⟩) (by simp; omega)).trans c0, (hb.cell (p := ⟨sb, 1, none⟩) (by simp; omega)).trans c1⟩
  have hcl : ∀ W, Below W0.heap.size W0 W → _ := fun W hb => cloneB_any A c bs W ((hR1.below hb (Nat.le_refl _)).more hb.size) hl
  have hbY : Below W0.heap.size W0 (W0.alloc (.cells #[.int .i64 0, .slice none 0 0] 24)).drew := ((Below.refl _ _).alloc (Nat.le_refl _) _).drew
  have kz : Bk (W0.alloc (.cells #[.int .i64 0, .slice none 0 0] 24)).drew W0.heap.size 24 #[.int .i64 0, .slice none 0 0] := Bk.new W0 _ _
  have KZ := Lib.hid kz
  have zsz : (W0.alloc (.cells #[.int .i64 0, .slice none 0 0] 24)).drew.heap.size = W0.heap.size + 1 := World.size_alloc _ _
  have ZSZ := Lib.hid zsz
  have HSBB := Lib.hid hSB
  have HCL := Lib.hid hcl
  have REL0 := Lib.hid (And.intro k0 (And.intro r0 (And.intro hB0 s0)))
  have s0' : sb + 1 < W0.heap.size := by omega
  clear hSB hcl k0 r0 hB0 c0 c1 kz zsz s0
  go_cut [3] (fun s3 wx => ∃ (g : Nat) (V : Value), s3 = .pointer (some ⟨g, 0, none⟩) ∧ Bk wx g 24 #[.int .i64 N, V] ∧ wx.ownsRow (sb + 2) 63 4 V bs.length (bcells bs) ∧ V.ownBlock ≠ some g ∧ sb + 2 ≤ g ∧ Bk wx sb 24 #[.int .i64 N, .slice A bs.length c] ∧ Bk wx (sb + 1) 24 #[.int .i64 0, .slice none 0 0] ∧ Below sb w wx)
  case first =>
    go_region_held3 (fun w' => w'.cell? ⟨sb, 0, none⟩ = some (.int .i64 N) ∧ w'.cell? ⟨sb, 1, none⟩ = some (.slice A bs.length c))
      (first
        | (with_reducible exact HSBB.out _ hbZ)
        | (with_reducible exact HSBB.out _ hbY)
        | (with_reducible exact HSBB.out _ hbC)
        | (with_reducible exact HSBB.out _ (hbC.setCell (p := ⟨W0.heap.size, 0, none⟩) (Nat.le_refl _) _))
        | (with_reducible exact HSBB.out _ ((hbC.setCell (p := ⟨W0.heap.size, 0, none⟩) (Nat.le_refl _) _).setCell (p := ⟨W0.heap.size, 1, none⟩) (Nat.le_refl _) _))
        | (with_reducible exact HSBB.out _ (hbC.alloc hbC.size _))
        | ((try dsimp only); first | (with_reducible exact HSBB.out _ hbC) | (with_reducible exact HSBB.out _ hbZ))
        | go_keep)
      (first
        | (go_at_call 106; refine (HCL.out W0.drew hbZ).mono ?_; rintro e w3 ⟨V, rfl, hown, hb3⟩; obtain ⟨A', c', rfl, hrd3⟩ := own_read hown; have hbC : Below W0.heap.size W0 w3 := hbZ.trans (hb3.mono hbZ.size))
        | (go_at_call 106; refine (HCL.out (W0.alloc (.cells #[.int .i64 0, .slice none 0 0] 24)).drew hbY).mono ?_; rintro e w3 ⟨V, rfl, hown, hb3⟩; obtain ⟨A', c', rfl, hrd3⟩ := own_read hown; have hbC : Below W0.heap.size W0 w3 := hbY.trans (hb3.mono hbY.size); have kz3 := KZ.out.below hb3 KZ.out.lt; have e0 := kz3.cell 0; have e1 := kz3.cell 1; have f0 := kz3.frozen 0; have f1 := kz3.frozen 1; have lz := kz3.lt; simp only [List.getElem?_toArray, List.getElem?_cons_zero, List.getElem?_cons_succ] at e0 e1))
    all_goals
      obtain ⟨k0, r0, hB0, s0⟩ := REL0.out
      have hz3 := hbC.size
      have hzs := ZSZ.out
      have own2 : w3.ownsRow (sb + 2) 63 4 (.slice A' bs.length c') bs.length (bcells bs) := own_base hown (by first | (show sb + 2 ≤ W0.heap.size; omega) | (rw [hzs]; omega))
      have FIN : ∀ (W : World) (g : Nat), Bk W g 24 #[.int .i64 N, .slice A' bs.length c'] → w3.grownBy W (some g) → sb + 2 ≤ g → (Value.slice A' bs.length c').ownBlock ≠ some g →
          ∃ (g' : Nat) (V : Value), Value.pointer (some ⟨g, 0, none⟩) = .pointer (some ⟨g', 0, none⟩) ∧ Bk W g' 24 #[.int .i64 N, V] ∧ W.ownsRow (sb + 2) 63 4 V bs.length (bcells bs) ∧ V.ownBlock ≠ some g' ∧ sb + 2 ≤ g' ∧ Bk W sb 24 #[.int .i64 N, .slice A bs.length c] ∧ Bk W (sb + 1) 24 #[.int .i64 0, .slice none 0 0] ∧ Below sb w W := fun W g hk hg h1 h2 =>
        ⟨g, _, rfl, hk, own2.kept hg (.inr h2), h2, h1, (k0.below hbC k0.lt).grown hg (by simp; omega), (r0.below hbC r0.lt).grown hg (by simp; omega), (hB0.trans (hbC.mono (by omega))).grown hg (by omega) (fun j e => by cases e; omega)⟩
      have HFIN := Lib.hid (And.intro FIN (And.intro hown (And.intro hz3 s0)))
      clear FIN own2 k0 r0 hB0 hown hz3 s0 hzs hrd3
      go_wp2_with fail
      go_meet
      obtain ⟨FIN, hown, hz3, s0⟩ := HFIN.out
      first
        | exact FIN _ _ (Bk.new w3 _ _) (World.grownBy_alloc w3 _ _) (by omega) (fun e => by have := (hown.lt _ e).2; omega)
        | exact FIN _ _ ((kz3.set 0 _).set 1 _) ⟨rfl, rfl, rfl, by simp [size_setCell], fun k hk hne => (Below.heap_setCell _ _ _ k (fun e => hne (by rw [e]))).trans (Below.heap_setCell _ _ _ k (fun e => hne (by rw [e])))⟩ (by omega) (fun e => by have := (hown.lt _ e).1; rw [ZSZ.out] at this; omega)
  case rest =>
    obtain ⟨g, V, rfl, qq, hV, hVn, hg, kk, rr, hB⟩ := hcut
    have c1 := kk.cell 1
    simp only [List.getElem?_toArray, List.getElem?_cons_zero, List.getElem?_cons_succ] at c1
    have l1 := kk.lt
    have REL := Lib.hid (And.intro qq (And.intro hV (And.intro kk (And.intro rr hB))))
    clear qq hV kk rr hB
    go_wp2_with fail
    obtain ⟨qq, hV, kk, rr, hB⟩ := REL.out
    clear REL c1 l1
    go_loopw [15] (fun i wr => ∃ k : Nat, k ≤ bs.length ∧ i = .int .i64 k ∧ Bk wr g 24 #[.int .i64 N, V] ∧ wr.ownsRow (sb + 2) 63 4 V bs.length (bcells (Ln.revK bs k)) ∧ Bk wr sb 24 #[.int .i64 N, .slice A bs.length c] ∧ Bk wr (sb + 1) 24 #[.int .i64 0, .slice none 0 0] ∧ Below sb w wr)
      (fun i _ => bs.length - (intOf i).toNat)
    case atStart => exact ⟨0, Nat.zero_le _, rfl, qq, by rw [Ln.revK_zero]; exact hV, kk, rr, hB⟩
    case round =>
      clear qq hV kk rr hB
      obtain ⟨k, hk, rfl, qq, hV, kk, rr, hB⟩ := hrel
      have l1 := kk.lt
      have l2 := qq.lt
      by_cases hkl : k < bs.length
      · have hk0 : (0 : Int) ≤ (k : Int) := Int.natCast_nonneg _
        have hk1 : (k : Int) < bs.length := by omega
        obtain ⟨b, off, rfl, hb, e0, e1, e2, e3⟩ := (hRs.below hB (Nat.le_refl _)).bound hkl
        have hturn := bcells_turn bs hkl
        obtain ⟨⟨bf, bt, bm, br, bg⟩, hbd⟩ : ∃ x, bs[k] = x := ⟨_, rfl⟩
        rw [hbd] at e0 e1 e2 e3 hturn
        dsimp only at e0 e1 e2 e3 hturn
        rcases hV.2 with ⟨_, h0⟩ | ⟨gv, cap, cur, rfl, hbv, hgv, _⟩
        · omega
        have hgl := (Array.getElem?_eq_some_iff.1 hgv).1
        have hgn : gv ≠ g := fun e => hVn (by rw [e]; rfl)
        have hlc : (bcells (Ln.revK bs k)).length = bs.length * 4 := by rw [bcells_length, Ln.revK_length]
        have kN := Bk.new wr 63 #[.int .i64 bf, .int .i64 bt, .int .i64 bm, .int .i64 br]
        have q5 := qq.alloc (.cells #[.int .i64 bf, .int .i64 bt, .int .i64 bm, .int .i64 br] 63)
        have hV5 := hV.alloc (.cells #[.int .i64 bf, .int .i64 bt, .int .i64 bm, .int .i64 br] 63)
        have k5 := kk.alloc (.cells #[.int .i64 bf, .int .i64 bt, .int .i64 bm, .int .i64 br] 63)
        have r5 := rr.alloc (.cells #[.int .i64 bf, .int .i64 bt, .int .i64 bm, .int .i64 br] 63)
        have hB5 := hB.alloc (by omega) (.cells #[.int .i64 bf, .int .i64 bt, .int .i64 bm, .int .i64 br] 63)
        have s5 : wr.heap.size < (wr.alloc (.cells #[.int .i64 bf, .int .i64 bt, .int .i64 bm, .int .i64 br] 63)).heap.size := by simp
        have HTURN := Lib.hid hturn
        clear hturn hbd hgv qq hV kk rr hB
        have REL5 := Lib.hid (And.intro kN (And.intro q5 (And.intro hV5 (And.intro k5 (And.intro r5 (And.intro hB5 s5))))))
        clear kN q5 hV5 k5 r5 hB5 s5
        go_upto_region 5 with fail
        obtain ⟨kN, q5, hV5, k5, r5, hB5, s5⟩ := REL5.out
        obtain ⟨X, hX⟩ : ∃ X, wr.heap.size = X := ⟨_, rfl⟩
        obtain ⟨W5, hW5⟩ : ∃ W5, wr.alloc (.cells #[.int .i64 bf, .int .i64 bt, .int .i64 bm, .int .i64 br] 63) = W5 := ⟨_, rfl⟩
        rw [hX] at kN s5 l1 l2 hgl ⊢
        rw [hW5] at kN q5 hV5 k5 r5 hB5 s5 ⊢
        clear REL5 hX hW5 e0 e1 e2 e3
        have x0 := kN.cell 0
        have x1 := kN.cell 1
        have q1 := q5.cell 1
        simp only [List.getElem?_toArray, List.getElem?_cons_zero, List.getElem?_cons_succ] at x0 x1 q1
        have c0 := hV5.cellAt (k * 4) (by omega)
        have c1 := hV5.cellAt (k * 4 + 1) (by omega)
        rw [List.getElem?_eq_getElem (by omega)] at c0 c1
        have f0 := hV5.frozenAt (k * 4)
        have f1 := hV5.frozenAt (k * 4 + 1)
        obtain ⟨y0, hy0⟩ : ∃ y0, (bcells (Ln.revK bs k))[k * 4]'(by omega) = y0 := ⟨_, rfl⟩
        obtain ⟨y1, hy1⟩ : ∃ y1, (bcells (Ln.revK bs k))[k * 4 + 1]'(by omega) = y1 := ⟨_, rfl⟩
        rw [hy0] at c0
        rw [hy1] at c1
        have hV6 := ((hV5.stored (k * 4) (.int .i64 bt)).1.stored (k * 4 + 1) (.int .i64 bf)).1
        rw [HTURN.out] at hV6
        have REL6 := Lib.hid (And.intro ((q5.far (p := ⟨gv, k * 4, none⟩) (by simp; omega) (.int .i64 bt)).far (p := ⟨gv, k * 4 + 1, none⟩) (by simp; omega) (.int .i64 bf)) (And.intro hV6 (And.intro ((k5.far (p := ⟨gv, k * 4, none⟩) (by simp; omega) (.int .i64 bt)).far (p := ⟨gv, k * 4 + 1, none⟩) (by simp; omega) (.int .i64 bf))
          (And.intro ((r5.far (p := ⟨gv, k * 4, none⟩) (by simp; omega) (.int .i64 bt)).far (p := ⟨gv, k * 4 + 1, none⟩) (by simp; omega) (.int .i64 bf)) ((hB5.setCell (p := ⟨gv, k * 4, none⟩) (by simp; omega) (.int .i64 bt)).setCell (p := ⟨gv, k * 4 + 1, none⟩) (by simp; omega) (.int .i64 bf))))))
        clear kN q5 hV5 k5 r5 hB5 hV6 hy0 hy1 hlc
        go_region
        all_goals
          go_wp2_with fail
          go_roundw
          case rel =>
            obtain ⟨q6, v6, k6, r6, b6⟩ := REL6.out
            exact ⟨k + 1, by omega, by go_num, q6, v6.drew, k6, r6, b6.drew⟩
          case measure => simp [intOf]; omega
      · have hke : k = bs.length := by omega
        subst hke
        rw [Ln.revK_all] at hV
        obtain ⟨A', c', rfl, hrd⟩ := own_read hV
        have q0 := qq.cell 0
        have q1 := qq.cell 1
        have d0 := rr.cell 0
        have d1 := rr.cell 1
        have f0 := rr.frozen 0
        have f1 := rr.frozen 1
        simp only [List.getElem?_toArray, List.getElem?_cons_zero, List.getElem?_cons_succ] at q0 q1 d0 d1
        have l4 := rr.lt
        have K6 := Lib.hid ((rr.set 0 (.int .i64 N)).set 1 (.slice A' bs.length c'))
        have HB6 := Lib.hid ((hB.setCell (p := ⟨sb + 1, 0, none⟩) (by simp) (.int .i64 N)).setCell (p := ⟨sb + 1, 1, none⟩) (by simp) (.slice A' bs.length c'))
        have HV6 := Lib.hid ((hV.kept (grown_setCell wr ⟨sb + 1, 0, none⟩ (.int .i64 N)) (own_offN hV (Nat.lt_succ_self _))).kept (grown_setCell _ ⟨sb + 1, 1, none⟩ (.slice A' bs.length c')) (own_offN hV (Nat.lt_succ_self _)))
        clear kk rr qq hV hB hrd
        go_wp2_with fail
        refine bodyPost_ret (v := .agg #[.int .i64 N, .slice A' bs.length c']) (results_cell_row rfl _ _ (sb + 1) 24 _ (0, 0) _ rfl K6.out Try.underlying24 rfl (by kernel_rfl)) rfl ⟨A', c', rfl, ?_, by rw [HSB.out]; exact HB6.out⟩
        obtain ⟨A2, c2, e, hrd⟩ := own_read HV6.out
        cases e
        exact hrd

/-- Numbers while they are turned into their opposites: k of them. -/
def negK (l : List Int) (k : Nat) : List Int := (l.take k).map (fun x => -x) ++ l.drop k
theorem negK_zero (l : List Int) : negK l 0 = l := by simp [negK]
theorem negK_all (l : List Int) : negK l l.length = l.map (fun x => -x) := by simp [negK]
theorem negK_length (l : List Int) (k : Nat) : (negK l k).length = l.length := by
  unfold negK
  rw [List.length_append, List.length_map, List.length_take, List.length_drop]
  omega
theorem negK_cons {l : List Int} {k : Nat} (hk : k < l.length) : ints (negK l k) = ints ((l.take k).map (fun x => -x)) ++ (.int .i64 l[k] :: ints (l.drop (k + 1))) := by
  unfold negK ints
  rw [List.drop_eq_getElem_cons hk, List.map_append]
  rfl
theorem negK_pre {l : List Int} {k : Nat} (hk : k < l.length) : (ints ((l.take k).map (fun x => -x))).length = k := by
  rw [ints_length, List.length_map, List.length_take]
  omega
theorem negK_at {l : List Int} {k : Nat} (hk : k < l.length) : (ints (negK l k))[k]? = some (.int .i64 l[k]) := by
  rw [negK_cons hk, List.getElem?_append_right (by rw [negK_pre hk]; exact Nat.le_refl _), negK_pre hk, Nat.sub_self]
  rfl
theorem negK_next {l : List Int} {k : Nat} (hk : k < l.length) : (ints (negK l k)).set k (.int .i64 (-l[k])) = ints (negK l (k + 1)) := by
  rw [negK_cons hk, List.set_append_right _ _ (by rw [negK_pre hk]; exact Nat.le_refl _), negK_pre hk, Nat.sub_self, List.set_cons_zero]
  unfold negK ints
  rw [List.take_succ_eq_append_getElem hk, List.map_append, List.map_append, List.map_append, List.append_assoc]
  rfl

set_option maxRecDepth 100000 in
set_option maxHeartbeats 2000000 in
theorem least_any (N : Int) (A : Option Addr) (c : Nat) (bs : List Ln.Bd) (w : World) (hR : Rd w w.heap.size 4 A bs.length (bcells bs)) (hc : Ln.Lv bs) :
    Calls Try.prog 34 #[.agg #[.int .i64 N, .slice A bs.length c]] w fun e w' => ∃ V, e = .returned (.tuple #[V, .int .i64 (Ln.leF N bs).2]) ∧ w'.ownsRow w.heap.size 3 1 V (Ln.leF N bs).1.length (ints (Ln.leF N bs).1) ∧ Below w.heap.size w w' := by
  have hB0 : Below w.heap.size w (w.alloc (.cells #[.int .i64 N, .slice A bs.length c] 24)) := (Below.refl _ _).alloc (Nat.le_refl _) _
  have hR1 := (hR.below hB0 (Nat.le_refl _)).more hB0.size
  have hLr : Ln.Lv (Ln.revs bs) := ⟨by rw [Ln.revs_length]; exact hc.len, Ln.revs_live hc.live⟩
  have hlen := hc.len
  have hgl : (Ln.grF N (Ln.revs bs)).1.length ≤ 128 := by
    by_cases hz : (Ln.grF N (Ln.revs bs)).2 = 0
    · have h1 := (Ln.grF_ok hz).len
      have h2 : Ln.check N (Ln.revs bs) = 0 := by
        unfold Ln.grF at hz
        split at hz
        · rename_i h; exact (Ln.sound_zero h).2.2
        · rename_i h; exact absurd hz h
      have := Ln.check_len h2
      omega
    · rw [Ln.grF_err hz]
      simp
  have hle : Ln.leF N bs = ((Ln.grF N (Ln.revs bs)).1.map (fun x => -x), (Ln.grF N (Ln.revs bs)).2) := rfl
  have hbig : ∀ k, k < (Ln.grF N (Ln.revs bs)).1.length → -400000000 ≤ Ln.gt (Ln.grF N (Ln.revs bs)).1 k ∧ Ln.gt (Ln.grF N (Ln.revs bs)).1 k ≤ 400000000 := fun k hk => by
    by_cases hz : (Ln.grF N (Ln.revs bs)).2 = 0
    · exact (Ln.grF_ok hz).small k
    · rw [Ln.grF_err hz] at hk
      simp at hk
  have hgc := fun A c w h => greatest_any N A c (Ln.revs bs) w h hLr
  rw [Ln.revs_length] at hgc
  rw [hle]
  obtain ⟨⟨l, er⟩, hg⟩ : ∃ x, Ln.grF N (Ln.revs bs) = x := ⟨_, rfl⟩
  rw [hg] at hgl hbig hgc ⊢
  dsimp only at hgl hbig hgc ⊢
  rw [List.length_map]
  have HBIG := Lib.hid hbig
  have HGC := Lib.hid hgc
  clear hle hbig hgc hg
  go_enter Try.func34, Try.ntmps34
  go_wp2_with fail
  refine (mirrored_any N A c bs _ hR1 (by omega)).mono ?_
  rintro e w1 ⟨A1, c1, rfl, r1, hb1⟩
  have hB1 := hB0.trans (hb1.mono hB0.size)
  go_wp2_with fail
  refine (HGC.out A1 c1 _ r1).mono ?_
  rintro e w2 ⟨V, rfl, hown, hb2⟩
  have hB2 := hB1.trans (hb2.mono hB1.size)
  have hown2 := own_base hown hB1.size
  have hVs : V = .slice none 0 0 ∧ l.length = 0 ∨ ∃ g cap, V = .slice (some ⟨g, 0, none⟩) l.length cap ∧ w.heap.size ≤ g := by
    rcases hown2.2 with ⟨h1, h2⟩ | ⟨g, cap, cur, h1, h2, _⟩
    · exact .inl ⟨h1, h2⟩
    · exact .inr ⟨g, cap, h1, h2⟩
  clear hown hb2 hb1 r1 hB1 hB0 hR1
  rcases hVs with ⟨rfl, h0⟩ | ⟨g, cap, rfl, hg⟩
  · have hnil : l = [] := List.eq_nil_of_length_eq_zero h0
    subst hnil
    go_wp2_with fail
    go_loopw [15] (fun i wr => i = .int .i64 0 ∧ wr = w2)
      (fun i _ => 0)
    case atStart => exact ⟨rfl, rfl⟩
    case round =>
      obtain ⟨rfl, rfl⟩ := hrel
      go_wp2_with fail
      go_ret2
      exact ⟨_, rfl, own_none _ _ _, hB2⟩
  · have REL := Lib.hid (And.intro hown2 hB2)
    clear hown2 hB2
    go_wp2_with fail
    obtain ⟨hown2, hB2⟩ := REL.out
    clear REL
    go_loopw [15] (fun i wr => ∃ k : Nat, k ≤ l.length ∧ i = .int .i64 k ∧ wr.ownsRow w.heap.size 3 1 (.slice (some ⟨g, 0, none⟩) l.length cap) l.length (ints (negK l k)) ∧ Below w.heap.size w wr)
      (fun i _ => l.length - (intOf i).toNat)
    case atStart => exact ⟨0, Nat.zero_le _, rfl, by rw [negK_zero]; exact hown2, hB2⟩
    case round =>
      clear hown2 hB2
      obtain ⟨k, hk, rfl, hown, hB⟩ := hrel
      by_cases hkl : k < l.length
      · have hk0 : (0 : Int) ≤ (k : Int) := Int.natCast_nonneg _
        have hk1 : (k : Int) < l.length := by omega
        have c0 := hown.cellAt k (by omega)
        have f0 := hown.frozenAt k
        have hgl := (hown.lt g rfl).2
        rw [negK_at hkl] at c0
        have hsm := HBIG.out k hkl
        rw [Ln.gt_eq hkl] at hsm
        have hst := (hown.stored k (.int .i64 (-l[k]))).1
        rw [negK_next hkl] at hst
        have hB2 := hB.setCell (p := ⟨g, k, none⟩) hg (.int .i64 (-l[k]))
        have REL := Lib.hid (And.intro hst hB2)
        obtain ⟨x, hxx⟩ : ∃ x, l[k] = x := ⟨_, rfl⟩
        rw [hxx] at c0 hsm REL
        clear hst hB2 hown hB hxx
        go_wp2_with fail
        go_roundw
        case rel => exact ⟨k + 1, by omega, by go_num, REL.out.1, REL.out.2⟩
        case measure => simp [intOf]; omega
      · have hke : k = l.length := by omega
        subst hke
        rw [negK_all] at hown
        have REL := Lib.hid (And.intro hown hB)
        clear hown hB
        go_wp2_with fail
        go_ret2
        exact ⟨_, rfl, REL.out.1, REL.out.2⟩

end Go.Proofs.Ytppfpdhgckghdaa

