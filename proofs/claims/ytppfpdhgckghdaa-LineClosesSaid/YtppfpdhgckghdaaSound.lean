/-
  checkPoints, sound.
-/
import Derived.Test.YtppfpdhgckghdaaCheck
import Derived.Test.YtppfpdhgckghdaaDist
set_option linter.unusedVariables false
set_option linter.unusedSimpArgs false
namespace Go.Proofs.Ytppfpdhgckghdaa
open Go.RowKit

def ints (l : List Int) : List Value := l.map (Value.int .i64)
theorem ints_length (l : List Int) : (ints l).length = l.length := by simp [ints]

theorem pts_take {N : Int} {ps : List Int} {k : Nat} (hk : k < ps.length) (ha : (ps.take k).all (Ln.isPoint N) = true) (hv : Ln.isPoint N ps[k] = true) : (ps.take (k + 1)).all (Ln.isPoint N) = true := by
  rw [List.take_succ_eq_append_getElem hk, List.all_append, ha, List.all_cons, hv]
  rfl

/-- The cell of element k of a slice of numbers, as a walk comes to it. -/
theorem Rd.one {w : World} {B : Nat} {A : Option Addr} {l : List Int} (h : Rd w B 1 A l.length (ints l)) {k : Nat} (hk : k < l.length) :
    ∃ b off, A = some ⟨b, off, none⟩ ∧ b < B ∧ w.cell? ⟨b, off + k, none⟩ = some (.int .i64 l[k]) := by
  obtain ⟨b, off, e, hb, hc⟩ := h.2 (by omega)
  refine ⟨b, off, e, hb, ?_⟩
  rw [hc k (by omega)]
  simp [ints, hk]

set_option maxRecDepth 100000 in
set_option maxHeartbeats 1000000 in
theorem checkPoints_any (N : Int) (A : Option Addr) (c : Nat) (bs : List Ln.Bd) (A2 : Option Addr) (c2 : Nat) (ps : List Int) (w : World) (hR : Rd w w.heap.size 4 A bs.length (bcells bs)) (hc : bs.length ≤ 1000000)
    (hP : Rd w w.heap.size 1 A2 ps.length (ints ps)) (hps : ps.length ≤ 1000000) :
    Calls Try.prog 74 #[.agg #[.int .i64 N, .slice A bs.length c], .slice A2 ps.length c2] w fun e w' => e = .returned (.int .i64 (Ln.cpF N bs ps)) ∧ Below w.heap.size w w' := by
  have k0 := Bk.new w 24 #[.int .i64 N, .slice A bs.length c]
  have hB0 : Below w.heap.size w (w.alloc (.cells #[.int .i64 N, .slice A bs.length c] 24)) := (Below.refl _ _).alloc (Nat.le_refl _) _
  have hR1 := (hR.below hB0 (Nat.le_refl _)).more hB0.size
  have hP1 := hP.below hB0 (Nat.le_refl _)
  by_cases hch : Ln.check N bs = 0
  · have hne : (Ln.check N bs != 0) = false := by simp [hch]
    have HC := Lib.hid hch
    clear hch
    go_enter Try.func74, Try.ntmps74
    go_wp2_with (go_at_call 52; refine (check_any N A c bs _ hR1 hc).mono ?_; rintro e w1 ⟨rfl, hb1⟩; have k1 := k0.below hb1 (by simp); have hB1 := hB0.trans (hb1.mono (by simp)))
    go_loopw [15] (fun i wr => ∃ k : Nat, k ≤ ps.length ∧ i = .int .i64 k ∧ (ps.take k).all (Ln.isPoint N) = true ∧ Below w.heap.size w wr ∧ Bk wr w.heap.size 24 #[.int .i64 N, .slice A bs.length c])
      (fun i _ => ps.length - (intOf i).toNat)
    case atStart => exact ⟨0, Nat.zero_le _, rfl, rfl, hB1, k1⟩
    case round =>
      obtain ⟨k, hk, rfl, ha, hB, hK⟩ := hrel
      have hlt := hK.lt
      have c0 := hK.cell 0
      by_cases hkl : k < ps.length
      · obtain ⟨b, off, rfl, hb, e0⟩ := (hP.below hB (Nat.le_refl _)).one hkl
        have hat := pts_take hkl ha
        have hbad := Ln.cpF_no (ps := ps) HC.out hkl
        obtain ⟨p, hp⟩ : ∃ p, ps[k] = p := ⟨_, rfl⟩
        rw [hp] at e0 hat hbad
        have HA := Lib.hid hat
        have HB := Lib.hid hbad
        clear hat hbad hp ha
        rcases hv : Ln.isPoint N p with _ | _
        · go_wp2_with (first | (go_at_call 104; refine (isPoint_any _ _ _).mono ?_; rintro e w1 ⟨rfl, rfl⟩))
          go_ret
          rw [HB.out hv]
          exact ⟨rfl, hB⟩
        · go_wp2_with (first | (go_at_call 104; refine (isPoint_any _ _ _).mono ?_; rintro e w1 ⟨rfl, rfl⟩))
          go_roundw
          case rel => exact ⟨k + 1, by omega, by go_num, HA.out hv, hB, hK⟩
          case measure => simp [intOf]; omega
      · go_wp2_with (fail)
        go_ret
        obtain rfl : k = ps.length := by omega
        rw [Ln.cpF_ok HC.out ha]
        exact ⟨rfl, hB⟩
  · have hne : (Ln.check N bs != 0) = true := by simp [hch]
    have HC := Lib.hid hch
    clear hch
    go_enter Try.func74, Try.ntmps74
    go_wp2_with (go_at_call 52; refine (check_any N A c bs _ hR1 hc).mono ?_; rintro e w1 ⟨rfl, hb1⟩)
    go_ret
    rw [Ln.cpF_bad HC.out]
    exact ⟨rfl, hB0.trans (hb1.mono (by simp))⟩

section
variable (N : Int) (A : Option Addr) (c : Nat) (bs : List Ln.Bd) (A2 : Option Addr) (c2 : Nat) (ps : List Int) (w : World)

set_option maxRecDepth 100000 in
set_option maxHeartbeats 1000000 in
theorem sound_bad (hR : Rd w w.heap.size 4 A bs.length (bcells bs)) (hc : Ln.Lv bs)
    (hP : Rd w w.heap.size 1 A2 ps.length (ints ps)) (hps : ps.length ≤ 1000000) (hcp : Ln.cpF N bs ps ≠ 0) :
    Calls Try.prog 69 #[.agg #[.int .i64 N, .slice A bs.length c], .slice A2 ps.length c2] w fun e w' => e = .returned (.tuple #[.pointer none, .int .i64 (Ln.cpF N bs ps)]) ∧ Below w.heap.size w w' := by
  have k0 := Bk.new w 24 #[.int .i64 N, .slice A bs.length c]
  have hB0 : Below w.heap.size w (w.alloc (.cells #[.int .i64 N, .slice A bs.length c] 24)) := (Below.refl _ _).alloc (Nat.le_refl _) _
  have hR1 := (hR.below hB0 (Nat.le_refl _)).more hB0.size
  have hP1 := (hP.below hB0 (Nat.le_refl _)).more hB0.size
  have hne : (Ln.cpF N bs ps != 0) = true := by simp [hcp]
  clear hcp
  go_enter Try.func69, Try.ntmps69
  go_wp2_with (go_at_call 74; refine (checkPoints_any N A c bs A2 c2 ps _ hR1 hc.len hP1 hps).mono ?_; rintro e w1 ⟨rfl, hb1⟩)
  go_ret2
  exact ⟨rfl, hB0.trans (hb1.mono (by simp))⟩

set_option maxRecDepth 100000 in
set_option maxHeartbeats 1000000 in
theorem sound_circle (hR : Rd w w.heap.size 4 A bs.length (bcells bs)) (hc : Ln.Lv bs)
    (hP : Rd w w.heap.size 1 A2 ps.length (ints ps)) (hps : ps.length ≤ 1000000) (hcp : Ln.cpF N bs ps = 0) (hco : Ln.consF bs N.toNat = false) :
    Calls Try.prog 69 #[.agg #[.int .i64 N, .slice A bs.length c], .slice A2 ps.length c2] w fun e w' => e = .returned (.tuple #[.pointer none, .int .i64 10]) ∧ Below w.heap.size w w' := by
  obtain ⟨hok, hN⟩ := Ln.ok_of_check (Ln.cpF_zero hcp)
  obtain ⟨M, hM⟩ : ∃ M, N.toNat = M := ⟨_, rfl⟩
  rw [hM] at hok hN hco
  clear hM
  subst hN
  have k0 := Bk.new w 24 #[.int .i64 (M : Int), .slice A bs.length c]
  have hB0 : Below w.heap.size w (w.alloc (.cells #[.int .i64 (M : Int), .slice A bs.length c] 24)) := (Below.refl _ _).alloc (Nat.le_refl _) _
  have hR1 := (hR.below hB0 (Nat.le_refl _)).more hB0.size
  have hP1 := (hP.below hB0 (Nat.le_refl _)).more hB0.size
  have HCP := Lib.hid hcp
  have HCO := Lib.hid hco
  clear hcp hco
  go_enter Try.func69, Try.ntmps69
  go_wp2_with (first
    | (go_at_call 74; refine (checkPoints_any (M : Int) A c bs A2 c2 ps _ hR1 hc.len hP1 hps).mono ?_; rw [HCP.out]; rintro e w1 ⟨rfl, hb1⟩; have k1 := k0.below hb1 (by simp); have c0 := k1.cell 0; have c1 := k1.cell 1; have hB1 := hB0.trans (hb1.mono (by simp)); have hR2 := (hR.below hB1 (Nat.le_refl _)).more hB1.size)
    | (go_at_call 53; refine (netOf_any M A c bs hok hc _ hR2).mono ?_; rintro e w2 ⟨nb, fr, rfl, hNt, hb2⟩)
    | (go_at_call 54; refine (consistent_any hok _ nb A c fr _ hNt (Nat.le_refl _)).mono ?_; rw [HCO.out]; rintro e w3 ⟨rfl, hb3⟩))
  go_ret2
  exact ⟨rfl, (hB1.trans (hb2.mono hB1.size)).trans (hb3.mono (Nat.le_trans hB1.size hb2.size))⟩

set_option maxRecDepth 100000 in
set_option maxHeartbeats 1000000 in
theorem sound_new (hR : Rd w w.heap.size 4 A bs.length (bcells bs)) (hc : Ln.Lv bs)
    (hP : Rd w w.heap.size 1 A2 ps.length (ints ps)) (hps : ps.length ≤ 1000000) (hcp : Ln.cpF N bs ps = 0) (hco : Ln.consF bs N.toNat = true) :
    Calls Try.prog 69 #[.agg #[.int .i64 N, .slice A bs.length c], .slice A2 ps.length c2] w fun e w' => ∃ nb fr, e = .returned (.tuple #[.pointer (some ⟨nb, 0, none⟩), .int .i64 0]) ∧ IsNet w' w'.heap.size nb N.toNat bs A c fr ∧ Below w.heap.size w w' ∧ w.heap.size ≤ nb ∧ ∀ (p : Nat) (v : Value) (g : Nat), fr[p]? = some v → v.ownBlock = some g → nb < g := by
  obtain ⟨hok, hN⟩ := Ln.ok_of_check (Ln.cpF_zero hcp)
  obtain ⟨M, hM⟩ : ∃ M, N.toNat = M := ⟨_, rfl⟩
  rw [hM] at hok hN hco ⊢
  clear hM
  subst hN
  have k0 := Bk.new w 24 #[.int .i64 (M : Int), .slice A bs.length c]
  have hB0 : Below w.heap.size w (w.alloc (.cells #[.int .i64 (M : Int), .slice A bs.length c] 24)) := (Below.refl _ _).alloc (Nat.le_refl _) _
  have hR1 := (hR.below hB0 (Nat.le_refl _)).more hB0.size
  have hP1 := (hP.below hB0 (Nat.le_refl _)).more hB0.size
  have HCP := Lib.hid hcp
  have HCO := Lib.hid hco
  clear hcp hco
  go_enter Try.func69, Try.ntmps69
  go_wp2_with (first
    | (go_at_call 74; refine (checkPoints_any (M : Int) A c bs A2 c2 ps _ hR1 hc.len hP1 hps).mono ?_; rw [HCP.out]; rintro e w1 ⟨rfl, hb1⟩; have k1 := k0.below hb1 (by simp); have c0 := k1.cell 0; have c1 := k1.cell 1; have hB1 := hB0.trans (hb1.mono (by simp)); have hR2 := (hR.below hB1 (Nat.le_refl _)).more hB1.size)
    | (go_at_call 53; refine (netOf_new M A c bs hok hc _ hR2).mono ?_; rintro e w2 ⟨nb, fr, rfl, hNt, hb2, hnb, hap⟩)
    | (go_at_call 54; refine (consistent_any hok _ nb A c fr _ hNt (Nat.le_refl _)).mono ?_; rw [HCO.out]; rintro e w3 ⟨rfl, hb3⟩))
  go_ret2
  have hN3 := hNt.below hb3 (Nat.le_refl _)
  exact ⟨nb, fr, rfl, ⟨Nat.lt_of_lt_of_le hN3.lt hb3.size, hN3.blk, hN3.len, hN3.bounds.more hb3.size, fun p v hv => by
    obtain ⟨A', c', e, hr⟩ := hN3.rows p v hv
    exact ⟨A', c', e, hr.more hb3.size⟩⟩, (hB1.trans (hb2.mono hB1.size)).trans (hb3.mono (Nat.le_trans hB1.size hb2.size)), Nat.le_trans hB1.size hnb, hap⟩

theorem sound_ok (hR : Rd w w.heap.size 4 A bs.length (bcells bs)) (hc : Ln.Lv bs)
    (hP : Rd w w.heap.size 1 A2 ps.length (ints ps)) (hps : ps.length ≤ 1000000) (hcp : Ln.cpF N bs ps = 0) (hco : Ln.consF bs N.toNat = true) :
    Calls Try.prog 69 #[.agg #[.int .i64 N, .slice A bs.length c], .slice A2 ps.length c2] w fun e w' => ∃ nb fr, e = .returned (.tuple #[.pointer (some ⟨nb, 0, none⟩), .int .i64 0]) ∧ IsNet w' w'.heap.size nb N.toNat bs A c fr ∧ Below w.heap.size w w' :=
  (sound_new N A c bs A2 c2 ps w hR hc hP hps hcp hco).mono fun _ _ ⟨nb, fr, h1, h2, h3, _⟩ => ⟨nb, fr, h1, h2, h3⟩
end

end Go.Proofs.Ytppfpdhgckghdaa
