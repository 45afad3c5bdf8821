/-
  distances; sound; what is made of them.
-/
import Derived.Test.YteiaofgkmgllcaaSettle
import Derived.Test.YteiaofgkmgllcaaMath
import Derived.Test.YteiaofgkmgllcaaCheck
set_option linter.unusedVariables false
set_option linter.unusedSimpArgs false
namespace Go.Proofs.Yteiaofgkmgllcaa
open Go.RowKit

set_option maxRecDepth 100000 in
set_option maxHeartbeats 1000000 in
theorem consistent_any {N : Nat} {bs : List Ln.Bd} (hok : Ln.Ok N bs) (B nb : Nat) (A : Option Addr) (c : Nat) (fr : List Value) (w : World) (hN : IsNet w B nb N bs A c fr) (hBw : B ≤ w.heap.size) :
    Calls Try.prog 35 #[.pointer (some ⟨nb, 0, none⟩)] w fun e w' => e = .returned (.bool (Ln.consF bs N)) ∧ Below w.heap.size w w' := by
  have hl := (Ln.settleF_small hok N Ln.zeros_length Ln.zeros_small (by omega) (by have := hok.top; omega)).1
  go_enter Try.func35, Try.ntmps35
  go_wp2_with (first
    | (go_at_call 66; rw [zero94]; refine (settle_any hok B nb A c fr Ln.zeros 0 _ hN hBw Ln.zeros_length Ln.zeros_small (by omega) (by omega)).mono ?_; rintro e w1 ⟨rfl, hb1⟩)
    | (refine wpList_store_row rfl 89 (.tmp 3) (.tmp 9) rfl w1.heap.size _ rfl rfl 89 _ (Bk.new w1 _ _) (av_len94 hl) (by rw [zero94]; exact av_same Ln.zeros_length hl) (av_one _) ?_))
  go_ret
  exact ⟨rfl, (Bk.new w1 _ _).below_set (t := 89) hb1.size _ (hb1.alloc hb1.size _)⟩

set_option maxRecDepth 100000 in
set_option maxHeartbeats 1000000 in
theorem distances_any {N : Nat} {bs : List Ln.Bd} (hok : Ln.Ok N bs) (B nb : Nat) (A : Option Addr) (c : Nat) (fr : List Value) (a : Nat) (ha : a < N) (w : World) (hN : IsNet w B nb N bs A c fr) (hBw : B ≤ w.heap.size) :
    Calls Try.prog 50 #[.pointer (some ⟨nb, 0, none⟩), .int .i64 a] w fun e w' => e = .returned (.agg (av (Ln.distF bs N a))) ∧ Below w.heap.size w w' := by
  have htop := hok.top
  have hl : (Ln.settleF bs N N (Ln.nones.set a 0)).1.length = 128 := (Ln.distF_small hok a).1
  have hi0 : (0 : Int) ≤ (a : Int) := Int.natCast_nonneg _
  have hi1 : (a : Int) < 128 := by omega
  go_enter Try.func50, Try.ntmps50
  have hsl := Ln.start_length a
  have HL := Lib.hid hl
  have HSL := Lib.hid hsl
  clear hl hsl
  have kz := Bk.new w 89 Try.zeroCells89
  have hz128 : Try.zeroCells89.size = (av Ln.nones).size := by rw [zero94]; exact av_same Ln.zeros_length Ln.nones_length
  have HZ := Lib.hid hz128
  clear hz128
  go_wp2_with (first
    | (go_at_call 76; refine (unreached_any _).mono ?_; rintro e w1 ⟨rfl, hb1⟩; have kr1 := kz.below hb1 (by simp); have hB1 := ((Below.refl _ w).alloc (Nat.le_refl _) (.cells Try.zeroCells89 89)).trans (hb1.mono (by simp)); clear kz)
    | (refine wpList_store_row rfl 89 (.tmp 5) (.tmp 6) rfl w1.heap.size _ rfl rfl 89 _ (Bk.new w1 _ _) (av_len94 Ln.nones_length) HZ.out (av_one _) ?_; obtain ⟨W2, hW2⟩ : ∃ W2, (w1.alloc (.cells Try.zeroCells89 89)).setRow w1.heap.size (av Ln.nones) = W2 := ⟨_, rfl⟩; have k5 : Bk W2 w1.heap.size 89 (av Ln.nones) := (by rw [← hW2]; exact (Bk.new w1 _ _).row _); have kr2 : Bk W2 w.heap.size 89 Try.zeroCells89 := (by rw [← hW2]; exact (kr1.alloc _).row_far (by have := kr1.lt; omega) _); have hB2 : Below w.heap.size w W2 := (by rw [← hW2]; exact (Bk.new w1 _ _).below_set (t := 89) hB1.size _ (hB1.alloc hB1.size _)); rw [hW2]; clear hW2; have c5 := (k5.cell a).trans (av_at (by rw [Ln.nones_length]; omega)); have f5 := k5.frozen a; have k6 := k5.set a (.int .i64 0); rw [av_set] at k6; have hgl : w.heap.size < w1.heap.size := kr1.lt; have kr6 := kr2.far (p := ⟨w1.heap.size, a, none⟩) (by simp; omega) (.int .i64 0); have hB6 := hB2.setCell (p := ⟨w1.heap.size, a, none⟩) (by simp; omega) (.int .i64 0); have K6 := Lib.hid k6; have KR6 := Lib.hid kr6; have HB6 := Lib.hid hB6; clear k5 k6 kr6 hB6 kr2 hB2)
    | (refine wpList_load_row rfl 89 (.tmp 5) rfl w1.heap.size rfl 89 _ (0, 0) _ K6.out Try.underlying89 rfl (av_len94 HSL.out) ?_)
    | (go_at_call 66; refine (settle_any hok B nb A c fr (Ln.nones.set a 0) 0 _ (hN.below HB6.out hBw) (Nat.le_trans hBw HB6.out.size) HSL.out (Ln.start_small a) (by omega) (by omega)).mono ?_; rintro e w3 ⟨rfl, hb3⟩; have k7 := K6.out.below hb3 K6.out.lt; have kr7 := KR6.out.below hb3 KR6.out.lt; have hB7 := HB6.out.trans (hb3.mono HB6.out.size))
    | (refine wpList_store_row rfl 89 (.tmp 5) (.tmp 13) rfl w1.heap.size _ rfl rfl 89 _ k7 (av_len94 HL.out) (av_same HSL.out HL.out) (av_one _) ?_; have k8 := k7.row (av (Ln.settleF bs N N (Ln.nones.set a 0)).1); have kr8 := kr7.row_far (k := w1.heap.size) (by omega) (av (Ln.settleF bs N N (Ln.nones.set a 0)).1); have hB8 := k7.below_set (by omega) (av (Ln.settleF bs N N (Ln.nones.set a 0)).1) hB7)
    | (refine wpList_load_row rfl 89 (.tmp 5) rfl w1.heap.size rfl 89 _ (0, 0) _ k8 Try.underlying89 rfl (av_len94 HL.out) ?_)
    | (refine wpList_store_row rfl 89 (.tmp 4) (.tmp 15) rfl w.heap.size _ rfl rfl 89 _ kr8 (av_len94 HL.out) (by rw [zero94]; exact av_same Ln.zeros_length HL.out) (av_one _) ?_))
  exact bodyPost_ret (v := .agg (av (Ln.distF bs N a))) (results_cell_row rfl _ _ w.heap.size 89 _ (0, 0) _ rfl (kr8.row _) Try.underlying89 rfl (av_len94 HL.out)) rfl ⟨rfl, kr8.below_set (Nat.le_refl _) _ hB8⟩

end Go.Proofs.Yteiaofgkmgllcaa

namespace Go.Proofs.Yteiaofgkmgllcaa
open Go.RowKit

def ints (l : List Int) : List Value := l.map (Value.int .i64)
theorem ints_length (l : List Int) : (ints l).length = l.length := by simp [ints]

theorem pts_take {N : Int} {ps : List Int} {k : Nat} (hk : k < ps.length) (ha : (ps.take k).all (Ln.isPoint N) = true) (hv : Ln.isPoint N ps[k] = true) : (ps.take (k + 1)).all (Ln.isPoint N) = true := by
  rw [List.take_succ_eq_append_getElem hk, List.all_append, ha, List.all_cons, hv]
  rfl

/-- The cell of element k of a slice of numbers, as a walk comes to it. -/
theorem Rd.one {w : World} {B : Nat} {A : Option Addr} {l : List Int} (h : Rd w B 1 A l.length (ints l)) {k : Nat} (hk : k < l.length) :
    ∃ b off, A = some ⟨b, off, none⟩ ∧ b < B ∧ w.cell? ⟨b, off + k, none⟩ = some (.int .i64 l[k]) := by
  obtain ⟨b, off, e, hb, hc⟩ := h.2 (by omega)
  refine ⟨b, off, e, hb, ?_⟩
  rw [hc k (by omega)]
  simp [ints, hk]

set_option maxRecDepth 100000 in
set_option maxHeartbeats 1000000 in
theorem checkPoints_any (N : Int) (A : Option Addr) (c : Nat) (bs : List Ln.Bd) (A2 : Option Addr) (c2 : Nat) (ps : List Int) (w : World) (hR : Rd w w.heap.size 4 A bs.length (bcells bs)) (hc : bs.length ≤ 1000000)
    (hP : Rd w w.heap.size 1 A2 ps.length (ints ps)) (hps : ps.length ≤ 1000000) :
    Calls Try.prog 53 #[.agg #[.int .i64 N, .slice A bs.length c], .slice A2 ps.length c2] w fun e w' => e = .returned (.int .i64 (Ln.cpF N bs ps)) ∧ Below w.heap.size w w' := by
  have k0 := Bk.new w 24 #[.int .i64 N, .slice A bs.length c]
  have hB0 : Below w.heap.size w (w.alloc (.cells #[.int .i64 N, .slice A bs.length c] 24)) := (Below.refl _ _).alloc (Nat.le_refl _) _
  have hR1 := (hR.below hB0 (Nat.le_refl _)).more hB0.size
  have hP1 := hP.below hB0 (Nat.le_refl _)
  by_cases hch : Ln.check N bs = 0
  · have hne : (Ln.check N bs != 0) = false := by simp [hch]
    have HC := Lib.hid hch
    clear hch
    go_enter Try.func53, Try.ntmps53
    go_wp2_with (go_at_call 33; refine (check_any N A c bs _ hR1 hc).mono ?_; rintro e w1 ⟨rfl, hb1⟩; have k1 := k0.below hb1 (by simp); have hB1 := hB0.trans (hb1.mono (by simp)))
    go_loopw [15] (fun i wr => ∃ k : Nat, k ≤ ps.length ∧ i = .int .i64 k ∧ (ps.take k).all (Ln.isPoint N) = true ∧ Below w.heap.size w wr ∧ Bk wr w.heap.size 24 #[.int .i64 N, .slice A bs.length c])
      (fun i _ => ps.length - (intOf i).toNat)
    case atStart => exact ⟨0, Nat.zero_le _, rfl, rfl, hB1, k1⟩
    case round =>
      obtain ⟨k, hk, rfl, ha, hB, hK⟩ := hrel
      have hlt := hK.lt
      have c0 := hK.cell 0
      by_cases hkl : k < ps.length
      · obtain ⟨b, off, rfl, hb, e0⟩ := (hP.below hB (Nat.le_refl _)).one hkl
        have hat := pts_take hkl ha
        have hbad := Ln.cpF_no (ps := ps) HC.out hkl
        obtain ⟨p, hp⟩ : ∃ p, ps[k] = p := ⟨_, rfl⟩
        rw [hp] at e0 hat hbad
        have HA := Lib.hid hat
        have HB := Lib.hid hbad
        clear hat hbad hp ha
        rcases hv : Ln.isPoint N p with _ | _
        · go_wp2_with (first | (go_at_call 80; refine (isPoint_any _ _ _).mono ?_; rintro e w1 ⟨rfl, rfl⟩))
          go_ret
          rw [HB.out hv]
          exact ⟨rfl, hB⟩
        · go_wp2_with (first | (go_at_call 80; refine (isPoint_any _ _ _).mono ?_; rintro e w1 ⟨rfl, rfl⟩))
          go_roundw
          case rel => exact ⟨k + 1, by omega, by go_num, HA.out hv, hB, hK⟩
          case measure => simp [intOf]; omega
      · go_wp2_with (fail)
        go_ret
        obtain rfl : k = ps.length := by omega
        rw [Ln.cpF_ok HC.out ha]
        exact ⟨rfl, hB⟩
  · have hne : (Ln.check N bs != 0) = true := by simp [hch]
    have HC := Lib.hid hch
    clear hch
    go_enter Try.func53, Try.ntmps53
    go_wp2_with (go_at_call 33; refine (check_any N A c bs _ hR1 hc).mono ?_; rintro e w1 ⟨rfl, hb1⟩)
    go_ret
    rw [Ln.cpF_bad HC.out]
    exact ⟨rfl, hB0.trans (hb1.mono (by simp))⟩

section
variable (N : Int) (A : Option Addr) (c : Nat) (bs : List Ln.Bd) (A2 : Option Addr) (c2 : Nat) (ps : List Int) (w : World)

set_option maxRecDepth 100000 in
set_option maxHeartbeats 1000000 in
theorem sound_bad (hR : Rd w w.heap.size 4 A bs.length (bcells bs)) (hc : Ln.Lv bs)
    (hP : Rd w w.heap.size 1 A2 ps.length (ints ps)) (hps : ps.length ≤ 1000000) (hcp : Ln.cpF N bs ps ≠ 0) :
    Calls Try.prog 44 #[.agg #[.int .i64 N, .slice A bs.length c], .slice A2 ps.length c2] w fun e w' => e = .returned (.tuple #[.pointer none, .int .i64 (Ln.cpF N bs ps)]) ∧ Below w.heap.size w w' := by
  have k0 := Bk.new w 24 #[.int .i64 N, .slice A bs.length c]
  have hB0 : Below w.heap.size w (w.alloc (.cells #[.int .i64 N, .slice A bs.length c] 24)) := (Below.refl _ _).alloc (Nat.le_refl _) _
  have hR1 := (hR.below hB0 (Nat.le_refl _)).more hB0.size
  have hP1 := (hP.below hB0 (Nat.le_refl _)).more hB0.size
  have hne : (Ln.cpF N bs ps != 0) = true := by simp [hcp]
  clear hcp
  go_enter Try.func44, Try.ntmps44
  go_wp2_with (go_at_call 53; refine (checkPoints_any N A c bs A2 c2 ps _ hR1 hc.len hP1 hps).mono ?_; rintro e w1 ⟨rfl, hb1⟩)
  go_ret2
  exact ⟨rfl, hB0.trans (hb1.mono (by simp))⟩

set_option maxRecDepth 100000 in
set_option maxHeartbeats 1000000 in
theorem sound_circle (hR : Rd w w.heap.size 4 A bs.length (bcells bs)) (hc : Ln.Lv bs)
    (hP : Rd w w.heap.size 1 A2 ps.length (ints ps)) (hps : ps.length ≤ 1000000) (hcp : Ln.cpF N bs ps = 0) (hco : Ln.consF bs N.toNat = false) :
    Calls Try.prog 44 #[.agg #[.int .i64 N, .slice A bs.length c], .slice A2 ps.length c2] w fun e w' => e = .returned (.tuple #[.pointer none, .int .i64 10]) ∧ Below w.heap.size w w' := by
  obtain ⟨hok, hN⟩ := Ln.ok_of_check (Ln.cpF_zero hcp)
  obtain ⟨M, hM⟩ : ∃ M, N.toNat = M := ⟨_, rfl⟩
  rw [hM] at hok hN hco
  clear hM
  subst hN
  have k0 := Bk.new w 24 #[.int .i64 (M : Int), .slice A bs.length c]
  have hB0 : Below w.heap.size w (w.alloc (.cells #[.int .i64 (M : Int), .slice A bs.length c] 24)) := (Below.refl _ _).alloc (Nat.le_refl _) _
  have hR1 := (hR.below hB0 (Nat.le_refl _)).more hB0.size
  have hP1 := (hP.below hB0 (Nat.le_refl _)).more hB0.size
  have HCP := Lib.hid hcp
  have HCO := Lib.hid hco
  clear hcp hco
  go_enter Try.func44, Try.ntmps44
  go_wp2_with (first
    | (go_at_call 53; refine (checkPoints_any (M : Int) A c bs A2 c2 ps _ hR1 hc.len hP1 hps).mono ?_; rw [HCP.out]; rintro e w1 ⟨rfl, hb1⟩; have k1 := k0.below hb1 (by simp); have c0 := k1.cell 0; have c1 := k1.cell 1; have hB1 := hB0.trans (hb1.mono (by simp)); have hR2 := (hR.below hB1 (Nat.le_refl _)).more hB1.size)
    | (go_at_call 34; refine (netOf_any M A c bs hok hc _ hR2).mono ?_; rintro e w2 ⟨nb, fr, rfl, hNt, hb2⟩)
    | (go_at_call 35; refine (consistent_any hok _ nb A c fr _ hNt (Nat.le_refl _)).mono ?_; rw [HCO.out]; rintro e w3 ⟨rfl, hb3⟩))
  go_ret2
  exact ⟨rfl, (hB1.trans (hb2.mono hB1.size)).trans (hb3.mono (Nat.le_trans hB1.size hb2.size))⟩

set_option maxRecDepth 100000 in
set_option maxHeartbeats 1000000 in
theorem sound_new (hR : Rd w w.heap.size 4 A bs.length (bcells bs)) (hc : Ln.Lv bs)
    (hP : Rd w w.heap.size 1 A2 ps.length (ints ps)) (hps : ps.length ≤ 1000000) (hcp : Ln.cpF N bs ps = 0) (hco : Ln.consF bs N.toNat = true) :
    Calls Try.prog 44 #[.agg #[.int .i64 N, .slice A bs.length c], .slice A2 ps.length c2] w fun e w' => ∃ nb fr, e = .returned (.tuple #[.pointer (some ⟨nb, 0, none⟩), .int .i64 0]) ∧ IsNet w' w'.heap.size nb N.toNat bs A c fr ∧ Below w.heap.size w w' ∧ w.heap.size ≤ nb ∧ ∀ (p : Nat) (v : Value) (g : Nat), fr[p]? = some v → v.ownBlock = some g → nb < g := by
  obtain ⟨hok, hN⟩ := Ln.ok_of_check (Ln.cpF_zero hcp)
  obtain ⟨M, hM⟩ : ∃ M, N.toNat = M := ⟨_, rfl⟩
  rw [hM] at hok hN hco ⊢
  clear hM
  subst hN
  have k0 := Bk.new w 24 #[.int .i64 (M : Int), .slice A bs.length c]
  have hB0 : Below w.heap.size w (w.alloc (.cells #[.int .i64 (M : Int), .slice A bs.length c] 24)) := (Below.refl _ _).alloc (Nat.le_refl _) _
  have hR1 := (hR.below hB0 (Nat.le_refl _)).more hB0.size
  have hP1 := (hP.below hB0 (Nat.le_refl _)).more hB0.size
  have HCP := Lib.hid hcp
  have HCO := Lib.hid hco
  clear hcp hco
  go_enter Try.func44, Try.ntmps44
  go_wp2_with (first
    | (go_at_call 53; refine (checkPoints_any (M : Int) A c bs A2 c2 ps _ hR1 hc.len hP1 hps).mono ?_; rw [HCP.out]; rintro e w1 ⟨rfl, hb1⟩; have k1 := k0.below hb1 (by simp); have c0 := k1.cell 0; have c1 := k1.cell 1; have hB1 := hB0.trans (hb1.mono (by simp)); have hR2 := (hR.below hB1 (Nat.le_refl _)).more hB1.size)
    | (go_at_call 34; refine (netOf_new M A c bs hok hc _ hR2).mono ?_; rintro e w2 ⟨nb, fr, rfl, hNt, hb2, hnb, hap⟩)
    | (go_at_call 35; refine (consistent_any hok _ nb A c fr _ hNt (Nat.le_refl _)).mono ?_; rw [HCO.out]; rintro e w3 ⟨rfl, hb3⟩))
  go_ret2
  have hN3 := hNt.below hb3 (Nat.le_refl _)
  exact ⟨nb, fr, rfl, ⟨Nat.lt_of_lt_of_le hN3.lt hb3.size, hN3.blk, hN3.len, hN3.bounds.more hb3.size, fun p v hv => by
    obtain ⟨A', c', e, hr⟩ := hN3.rows p v hv
    exact ⟨A', c', e, hr.more hb3.size⟩⟩, (hB1.trans (hb2.mono hB1.size)).trans (hb3.mono (Nat.le_trans hB1.size hb2.size)), Nat.le_trans hB1.size hnb, hap⟩

theorem sound_ok (hR : Rd w w.heap.size 4 A bs.length (bcells bs)) (hc : Ln.Lv bs)
    (hP : Rd w w.heap.size 1 A2 ps.length (ints ps)) (hps : ps.length ≤ 1000000) (hcp : Ln.cpF N bs ps = 0) (hco : Ln.consF bs N.toNat = true) :
    Calls Try.prog 44 #[.agg #[.int .i64 N, .slice A bs.length c], .slice A2 ps.length c2] w fun e w' => ∃ nb fr, e = .returned (.tuple #[.pointer (some ⟨nb, 0, none⟩), .int .i64 0]) ∧ IsNet w' w'.heap.size nb N.toNat bs A c fr ∧ Below w.heap.size w w' :=
  (sound_new N A c bs A2 c2 ps w hR hc hP hps hcp hco).mono fun _ _ ⟨nb, fr, h1, h2, h3, _⟩ => ⟨nb, fr, h1, h2, h3⟩
end

end Go.Proofs.Yteiaofgkmgllcaa

namespace Go.Proofs.Yteiaofgkmgllcaa
open Go.RowKit

theorem run_index_av {d : List Int} (hd : d.length = 128) {b : Nat} (hb : b < 128) (w : World) : (Instr.index 89 (.agg (av d)) (.int .i64 (b : Int))).run Try.prog w = .ok (.int .i64 (Ln.gt d b)) w := by
  have h1 : Try.prog.underlying 89 = some (.array 128 3) := by kernel_rfl
  have hp : Try.prog.plainKey 3 = true := by kernel_rfl
  have hx : (av d)[b]? = some (.int .i64 (Ln.gt d b)) := av_at (by omega)
  have hs : ∀ w, (sizeOf 3).run Try.prog w = .ok 1 w := fun w => by kernel_rfl
  have hb' : (0 : Int) ≤ (b : Int) ∧ (b : Int) < ((128 : Nat) : Int) := by omega
  simp only [Instr.index, asIntOf, Sem.run_bind, Sem.run_pure, Result.andThen_ok, run_underlying h1]
  rw [if_pos hb']
  simp only [Sem.run_bind, hs, Result.andThen_ok]
  rw [show (b : Int).toNat * 1 = b from by omega]
  exact run_part_plain _ hp hx

theorem two_rd (w : World) (o : Obj) (a b : Int) : Rd ((w.alloc o).alloc (.cells #[.int .i64 a, .int .i64 b] 3)) ((w.alloc o).alloc (.cells #[.int .i64 a, .int .i64 b] 3)).heap.size 1 (some ⟨w.heap.size + 1, 0, none⟩) [a, b].length (ints [a, b]) := by
  refine ⟨rfl, fun _ => ⟨_, _, rfl, by simp, fun j hj => ?_⟩⟩
  have k1 := Bk.new (w.alloc o) 3 #[.int .i64 a, .int .i64 b]
  rw [World.size_alloc] at k1
  rw [Nat.zero_add, k1.cell j]
  simp [ints]

section
variable (N : Int) (A : Option Addr) (c : Nat) (bs : List Ln.Bd) (a b : Int) (w : World) 

set_option maxRecDepth 100000 in
set_option maxHeartbeats 1000000 in
theorem distance_bad (hR : Rd w w.heap.size 4 A bs.length (bcells bs)) (hc : Ln.Lv bs) (hs : Ln.soundF N bs [a, b] ≠ 0) :
    Calls Try.prog 27 #[.agg #[.int .i64 N, .slice A bs.length c], .int .i64 a, .int .i64 b] w fun e w' => e = .returned (.tuple #[.int .i64 0, .bool false, .int .i64 (Ln.soundF N bs [a, b])]) ∧ Below w.heap.size w w' := by
  have hB0 : Below w.heap.size w ((w.alloc (.cells #[.int .i64 N, .slice A bs.length c] 24)).alloc (.cells #[.int .i64 a, .int .i64 b] 3)) := ((Below.refl _ _).alloc (Nat.le_refl _) _).alloc (by simp) _
  have hR1 := (hR.below hB0 (Nat.le_refl _)).more hB0.size
  have hP1 := two_rd w (.cells #[.int .i64 N, .slice A bs.length c] 24) a b
  have hne : (Ln.soundF N bs [a, b] != 0) = true := by simp [hs]
  by_cases hcp : Ln.cpF N bs [a, b] = 0
  · have hco : Ln.consF bs N.toNat = false := by
      rcases h : Ln.consF bs N.toNat with _ | _
      · rfl
      · exact absurd (by rw [Ln.soundF, if_pos hcp, if_pos h]) hs
    have hs2 : Ln.soundF N bs [a, b] = 10 := by rw [Ln.soundF, if_pos hcp, if_neg (by rw [hco]; simp)]
    rw [hs2]
    have HCP := Lib.hid hcp
    have HCO := Lib.hid hco
    clear hs hs2 hne hcp hco
    go_enter Try.func27, Try.ntmps27
    go_wp2_with (go_at_call 44; refine (sound_circle N A c bs (some ⟨w.heap.size + 1, 0, none⟩) 2 [a, b] _ hR1 hc hP1 (by simp) HCP.out HCO.out).mono ?_; rintro e w1 ⟨rfl, hb1⟩)
    go_ret3
    exact ⟨rfl, hB0.trans (hb1.mono hB0.size)⟩
  · have hs2 : Ln.soundF N bs [a, b] = Ln.cpF N bs [a, b] := by rw [Ln.soundF, if_neg hcp]
    rw [hs2] at hne ⊢
    have HCP := Lib.hid hcp
    clear hs hs2 hcp
    go_enter Try.func27, Try.ntmps27
    go_wp2_with (go_at_call 44; refine (sound_bad N A c bs (some ⟨w.heap.size + 1, 0, none⟩) 2 [a, b] _ hR1 hc hP1 (by simp) HCP.out).mono ?_; rintro e w1 ⟨rfl, hb1⟩)
    go_ret3
    exact ⟨rfl, hB0.trans (hb1.mono hB0.size)⟩

set_option maxRecDepth 100000 in
set_option maxHeartbeats 1000000 in
theorem distance_ok (hR : Rd w w.heap.size 4 A bs.length (bcells bs)) (hc : Ln.Lv bs) (hs : Ln.soundF N bs [a, b] = 0) :
    Calls Try.prog 27 #[.agg #[.int .i64 N, .slice A bs.length c], .int .i64 a, .int .i64 b] w fun e w' =>
      e = .returned (.tuple (if Ln.dF N bs a b = Ln.NONE then #[.int .i64 0, .bool false, .int .i64 0] else #[.int .i64 (Ln.dF N bs a b), .bool true, .int .i64 0])) ∧ Below w.heap.size w w' := by
  have hB0 : Below w.heap.size w ((w.alloc (.cells #[.int .i64 N, .slice A bs.length c] 24)).alloc (.cells #[.int .i64 a, .int .i64 b] 3)) := ((Below.refl _ _).alloc (Nat.le_refl _) _).alloc (by simp) _
  have hR1 := (hR.below hB0 (Nat.le_refl _)).more hB0.size
  have hP1 := two_rd w (.cells #[.int .i64 N, .slice A bs.length c] 24) a b
  have hcp : Ln.cpF N bs [a, b] = 0 := by
    unfold Ln.soundF at hs
    split at hs
    · assumption
    · exact hs
  have hco : Ln.consF bs N.toNat = true := by
    rcases h : Ln.consF bs N.toNat with _ | _
    · rw [Ln.soundF, if_pos hcp, if_neg (by rw [h]; simp)] at hs
      cases hs
    · rfl
  obtain ⟨hok, hN⟩ := Ln.ok_of_check (Ln.cpF_zero hcp)
  have pa := Ln.pts_of hcp (p := a) (by simp)
  have pb := Ln.pts_of hcp (p := b) (by simp)
  obtain ⟨a', rfl⟩ : ∃ a' : Nat, a = a' := ⟨a.toNat, by omega⟩
  obtain ⟨b', rfl⟩ : ∃ b' : Nat, b = b' := ⟨b.toNat, by omega⟩
  have hix := fun w => run_index_av (Ln.distF_small hok a').1 (b := b') (by have := hok.top; omega) w
  have hdf : Ln.dF N bs a' b' = Ln.gt (Ln.distF bs N.toNat a') b' := by rw [Ln.dF]; simp
  rw [hdf]
  have HCP := Lib.hid hcp
  have HCO := Lib.hid hco
  clear hs hcp hco hdf
  obtain ⟨D, hD⟩ : ∃ D, Ln.distF bs N.toNat a' = D := ⟨_, rfl⟩
  rw [hD] at hix ⊢
  obtain ⟨y, hy⟩ : ∃ y, Ln.gt D b' = y := ⟨_, rfl⟩
  simp only [hy] at hix ⊢
  have HD := Lib.hid hD
  clear hy hD
  rcases hyn : (y == 9223372036854775807) with _ | _
  · have hyne : y ≠ Ln.NONE := by simpa [Ln.NONE] using hyn
    rw [if_neg hyne]
    clear hyne
    go_enter Try.func27, Try.ntmps27
    go_wp2_with (first
      | (go_at_call 44; refine (sound_ok N A c bs (some ⟨w.heap.size + 1, 0, none⟩) 2 [(a' : Int), (b' : Int)] _ hR1 hc hP1 (by simp) HCP.out HCO.out).mono ?_; rintro e w1 ⟨nb, fr, rfl, hNt, hb1⟩)
      | (go_at_call 50; refine (distances_any hok _ nb A c fr a' (by omega) _ hNt (Nat.le_refl _)).mono ?_; rw [HD.out]; rintro e w2 ⟨rfl, hb2⟩))
    go_ret3
    exact ⟨rfl, (hB0.trans (hb1.mono hB0.size)).trans (hb2.mono (Nat.le_trans hB0.size hb1.size))⟩
  · have hyne : y = Ln.NONE := by simpa [Ln.NONE] using hyn
    rw [if_pos hyne]
    clear hyne
    go_enter Try.func27, Try.ntmps27
    go_wp2_with (first
      | (go_at_call 44; refine (sound_ok N A c bs (some ⟨w.heap.size + 1, 0, none⟩) 2 [(a' : Int), (b' : Int)] _ hR1 hc hP1 (by simp) HCP.out HCO.out).mono ?_; rintro e w1 ⟨nb, fr, rfl, hNt, hb1⟩)
      | (go_at_call 50; refine (distances_any hok _ nb A c fr a' (by omega) _ hNt (Nat.le_refl _)).mono ?_; rw [HD.out]; rintro e w2 ⟨rfl, hb2⟩))
    go_ret3
    exact ⟨rfl, (hB0.trans (hb1.mono hB0.size)).trans (hb2.mono (Nat.le_trans hB0.size hb1.size))⟩
end

end Go.Proofs.Yteiaofgkmgllcaa

