/-
  CheckPath, leavesOnce, CheckCircle.
-/
import Derived.Test.YteiaofgkmgllcaaCons
import Derived.Test.YteiaofgkmgllcaaBetw
import Derived.Test.YteiaofgkmgllcaaRdA
set_option linter.unusedVariables false
set_option linter.unusedSimpArgs false
namespace Go.Proofs.Yteiaofgkmgllcaa
open Go.RowKit

section
variable (N : Int) (A : Option Addr) (c : Nat) (bs : List Ln.Bd) (A2 : Option Addr) (c2 : Nat) (l : List Int) (a b most : Int) (w : World)

theorem flF_of (bs : List Ln.Bd) (l : List Int) (a b most : Int) : ((Ln.flF bs l a).2.2 && (decide ((Ln.flF bs l a).1 = b) && decide ((Ln.flF bs l a).2.1 ≤ most))) = Ln.isPath (Ln.flG bs l (a, 0)) b most := by
  unfold Ln.flF Ln.isPath
  rcases Ln.flG bs l (a, 0) with _ | ⟨t, s⟩ <;> rfl

end

/-! ### leavesOnce -/
/-- 128 marks as cells. -/
def mv (m : Nat → Bool) : Array Value := ((List.range 128).map fun p => Value.bool (m p)).toArray
theorem mv_at (m : Nat → Bool) {p : Nat} (hp : p < 128) : (mv m)[p]? = some (.bool (m p)) := by
  unfold mv
  rw [List.getElem?_toArray, List.getElem?_map, List.getElem?_range hp]
  rfl
theorem mv_set (m : Nat → Bool) {p : Nat} (hp : p < 128) : (mv m).setIfInBounds p (.bool true) = mv (fun q => decide (q = p) || m q) := by
  apply Array.ext_getElem?
  intro q
  by_cases hq : q < 128
  · rw [mv_at _ hq]
    by_cases e : p = q
    · subst e
      rw [Array.getElem?_setIfInBounds_self, if_pos (by simp [mv]; exact hp)]
      simp
    · rw [Array.getElem?_setIfInBounds_ne e, mv_at _ hq]
      simp [show ¬ q = p from fun h => e h.symm]
  · rw [Array.getElem?_eq_none (by simp [mv]; omega), Array.getElem?_eq_none (by simp [mv]; omega)]
theorem zeroMarks : Try.zeroCells84 = mv (fun _ => false) := by kernel_rfl

namespace Ln
def fsF (bs : List Bd) (l : List Int) : List Nat := l.map (fun i => (bd bs i.toNat).f.toNat)
def mkF (bs : List Bd) (l : List Int) (k : Nat) : Nat → Bool := fun q => decide (q ∈ (fsF bs l).take k)
theorem fs_take (bs : List Bd) {l : List Int} {k : Nat} (hk : k < l.length) : (fsF bs l).take (k + 1) = (fsF bs l).take k ++ [(bd bs l[k].toNat).f.toNat] := by
  rw [List.take_succ_eq_append_getElem (by simpa [fsF] using hk)]
  simp [fsF]
theorem mk_next (bs : List Bd) {l : List Int} {k : Nat} (hk : k < l.length) : mkF bs l (k + 1) = fun q => decide (q = (bd bs l[k].toNat).f.toNat) || mkF bs l k q := by
  funext q
  unfold mkF
  rw [fs_take bs hk, Bool.eq_iff_iff]
  simp only [List.mem_append, List.mem_singleton, decide_eq_true_eq, Bool.or_eq_true]
  exact Or.comm
theorem once_next (bs : List Bd) {l : List Int} {k : Nat} (hk : k < l.length) (h : ((fsF bs l).take k).Nodup) (hm : mkF bs l k (bd bs l[k].toNat).f.toNat = false) : ((fsF bs l).take (k + 1)).Nodup := by
  rw [fs_take bs hk, List.nodup_append]
  refine ⟨h, by simp, fun x hx y hy e => ?_⟩
  rw [List.mem_singleton.1 hy] at e
  rw [e] at hx
  simp [mkF] at hm
  exact hm hx
theorem once_no (bs : List Bd) {l : List Int} {k : Nat} (hk : k < l.length) (hm : mkF bs l k (bd bs l[k].toNat).f.toNat = true) : onceB bs l = false := by
  unfold onceB
  rw [decide_eq_false_iff_not]
  intro hn
  have h1 : ((fsF bs l).take (k + 1)).Nodup := List.Nodup.sublist (List.take_sublist _ _) hn
  rw [fs_take bs hk, List.nodup_append] at h1
  simp only [mkF, decide_eq_true_eq] at hm
  exact h1.2.2 _ hm _ (by simp) rfl
theorem once_yes (bs : List Bd) {l : List Int} (h : ((fsF bs l).take l.length).Nodup) : onceB bs l = true := by
  unfold onceB
  rw [List.take_of_length_le (by simp [fsF])] at h
  exact decide_eq_true h
end Ln

set_option maxRecDepth 100000 in
set_option maxHeartbeats 2000000 in
theorem leavesOnce_any {M : Nat} (N : Int) (A : Option Addr) (c : Nat) (bs : List Ln.Bd) (A2 : Option Addr) (c2 : Nat) (l : List Int) (w : World) (hok : Ln.Ok M bs) (hR : Rd w w.heap.size 4 A bs.length (bcells bs)) (hL : Rd w w.heap.size 1 A2 l.length (ints l)) (hll : l.length ≤ 1000000)
    (hall : ∀ i ∈ l, 0 ≤ i ∧ i < bs.length) :
    Calls Try.prog 42 #[.agg #[.int .i64 N, .slice A bs.length c], .slice A2 l.length c2] w fun e w' => e = .returned (.bool (Ln.onceB bs l)) ∧ Below w.heap.size w w' := by
  have hB0 : Below w.heap.size w ((w.alloc (.cells #[.int .i64 N, .slice A bs.length c] 24)).alloc (.cells (mv (fun _ => false)) 84)) := ((Below.refl _ _).alloc (Nat.le_refl _) _).alloc (by simp) _
  have kS := (Bk.new w 24 #[.int .i64 N, .slice A bs.length c]).alloc (.cells (mv (fun _ => false)) 84)
  have kM := Bk.new (w.alloc (.cells #[.int .i64 N, .slice A bs.length c] 24)) 84 (mv (fun _ => false))
  rw [World.size_alloc] at kM
  have hlen := hok.len
  have htop := hok.top
  have hm0 : Ln.mkF bs l 0 = fun _ => false := by funext q; simp [Ln.mkF]
  rw [← hm0] at kM
  obtain ⟨r, hr⟩ : ∃ r, Ln.onceB bs l = r := ⟨_, rfl⟩
  rw [hr]
  have HR := Lib.hid hr
  have HALL := Lib.hid hall
  clear hr hall
  go_enter Try.func42, Try.ntmps42
  go_wp2_with fail
  rw [zeroMarks]
  rw [← hm0] at hB0 kS ⊢
  clear hm0
  go_loopw [11] (fun i wr => ∃ k : Nat, k ≤ l.length ∧ i = .int .i64 k ∧ ((Ln.fsF bs l).take k).Nodup ∧ Bk wr (w.heap.size + 1) 84 (mv (Ln.mkF bs l k)) ∧
        Bk wr w.heap.size 24 #[.int .i64 N, .slice A bs.length c] ∧ Below w.heap.size w wr)
      (fun i _ => l.length - (intOf i).toNat)
  case atStart => exact ⟨0, Nat.zero_le _, rfl, by simp, kM, kS, hB0⟩
  case round =>
    obtain ⟨k, hk, rfl, hn, kM1, kS1, hB⟩ := hrel
    have c1 := kS1.cell 1
    have hS1 := kS1.lt
    have hM1 := kM1.lt
    simp only [List.getElem?_toArray, List.getElem?_cons_zero, List.getElem?_cons_succ] at c1
    by_cases hlt : k < l.length
    · obtain ⟨bl, ol, rfl, hbl, el⟩ := Rd.one (hL.below hB (Nat.le_refl _)) hlt
      have hnx := Ln.mk_next bs hlt
      have hon := Ln.once_next bs hlt hn
      have hno := Ln.once_no bs hlt
      have hx := HALL.out _ (List.getElem_mem hlt)
      obtain ⟨x, hxe⟩ : ∃ x, l[k] = x := ⟨_, rfl⟩
      rw [hxe] at el hnx hon hno hx
      clear hxe
      obtain ⟨xn, rfl⟩ : ∃ xn : Nat, x = xn := ⟨x.toNat, by omega⟩
      have hxl : xn < bs.length := by omega
      obtain ⟨b, off, rfl, hb, e0, e1, e2, e3⟩ := (hR.below hB (Nat.le_refl _)).bound hxl
      rw [← Ln.bd_eq hxl] at e0 e1 e2 e3
      have hbd := Ln.flG_bound hok hxl
      rw [Int.toNat_natCast] at hnx hon hno
      obtain ⟨f, hf⟩ : ∃ f : Nat, (Ln.bd bs xn).f = f := ⟨(Ln.bd bs xn).f.toNat, by omega⟩
      rw [hf] at e0 hnx hon hno hbd
      rw [Int.toNat_natCast] at hnx hon hno
      clear hf e1 e2 e3 hx
      have hf128 : f < 128 := by omega
      have hi0 : (0 : Int) ≤ (f : Int) := Int.natCast_nonneg _
      have hi1 : (f : Int) < 128 := by omega
      have cm := (kM1.cell f).trans (mv_at _ hf128)
      have fm := kM1.frozen f
      have hxi0 : (0 : Int) ≤ (xn : Int) := Int.natCast_nonneg _
      have k2 := kM1.set f (.bool true)
      rw [mv_set _ hf128, ← hnx] at k2
      have k3 := kS1.far (p := ⟨w.heap.size + 1, f, none⟩) (by simp) (.bool true)
      have hB3 := hB.setCell (p := ⟨w.heap.size + 1, f, none⟩) (by simp) (.bool true)
      have K2 := Lib.hid k2
      have K3 := Lib.hid k3
      have HB3 := Lib.hid hB3
      have HON := Lib.hid hon
      have HNO := Lib.hid hno
      clear k2 k3 hB3 hon hno hnx hn
      rcases hmk : Ln.mkF bs l k f with _ | _
      · rw [hmk] at cm
        go_wp2_with fail
        go_roundw
        case rel => exact ⟨k + 1, by omega, by go_num, HON.out hmk, K2.out, K3.out, HB3.out⟩
        case measure => simp [intOf]; omega
      · rw [hmk] at cm
        go_wp2_with fail
        go_ret
        exact ⟨ret_bool (by rw [← HR.out]; exact (HNO.out hmk).symm), hB⟩
    · obtain rfl : k = l.length := by omega
      have hy := Ln.once_yes bs hn
      have HY := Lib.hid hy
      clear hy hn
      go_wp2_with fail
      go_ret
      exact ⟨ret_bool (by rw [← HR.out]; exact HY.out.symm), hB⟩

end Go.Proofs.Yteiaofgkmgllcaa

namespace Go.Proofs.Yteiaofgkmgllcaa
open Go.RowKit

theorem below_drewN {C : Nat} {w w' : World} (h : Below C w w') (n : Nat) : Below C w (w'.drewN n) := ⟨h.os, h.tape, h.output, h.size, h.block⟩

theorem rd_drewN {w : World} {size n : Nat} {A : Option Addr} {xs : List Value} (h : Rd w w.heap.size size A n xs) (k : Nat) : Rd (w.drewN k) (w.drewN k).heap.size size A n xs := h

namespace Ln
theorem ccF_small {N : Int} {bs : List Bd} {l : List Int} (hc : check N bs = 0) (h : l.length < 2 ∨ l0 l < 0 ∨ bs.length ≤ l0 l) : ccF N bs l = (false, 0) := by rw [ccF, if_pos hc, if_pos h]
theorem ccF_big {N : Int} {bs : List Bd} {l : List Int} (hc : check N bs = 0) (h : ¬ (l.length < 2 ∨ l0 l < 0 ∨ bs.length ≤ l0 l)) {f t s : Int} {is : Bool} (hf : (bd bs (l0 l).toNat).f = f) (hfl : flF bs l f = (t, s, is)) :
    ccF N bs l = (is && (decide (t = f) && (decide (s < 0) && onceB bs l)), 0) := by
  rw [ccF, if_pos hc, if_neg h, hf]
  unfold flF at hfl
  rcases hg : flG bs l (f, 0) with _ | ⟨t', s'⟩
  · rw [hg] at hfl
    simp only [outG, Prod.mk.injEq] at hfl
    obtain ⟨_, _, rfl⟩ := hfl
    rfl
  · rw [hg] at hfl
    simp only [outG, Prod.mk.injEq] at hfl
    obtain ⟨rfl, rfl, rfl⟩ := hfl
    rfl
theorem flF_all {bs : List Bd} {N : Nat} (hok : Ok N bs) (hl : ∀ b ∈ bs, b.gone = false) {l : List Int} {f t s : Int} (h : flF bs l f = (t, s, true)) : ∀ i ∈ l, 0 ≤ i ∧ i < bs.length := by
  unfold flF at h
  rcases hg : flG bs l (f, 0) with _ | ⟨t', s'⟩
  · rw [hg] at h; simp [outG] at h
  · exact (flG_path hok hl hg).2.2
end Ln

section
variable (N : Int) (A : Option Addr) (c : Nat) (bs : List Ln.Bd) (A2 : Option Addr) (c2 : Nat) (l : List Int) (w : World)
  (hR : Rd w w.heap.size 4 A bs.length (bcells bs)) (hc : Ln.Lv bs) (hL : Rd w w.heap.size 1 A2 l.length (ints l)) (hll : l.length ≤ 1000000)

set_option maxRecDepth 100000 in
set_option maxHeartbeats 1000000 in
include hR hc hL hll in
theorem cc_small (hs : Ln.check N bs = 0) (h : l.length < 2 ∨ Ln.l0 l < 0 ∨ bs.length ≤ Ln.l0 l) :
    Calls Try.prog 12 #[.agg #[.int .i64 N, .slice A bs.length c], .slice A2 l.length c2] w fun e w' => e = .returned (.tuple #[.bool false, .int .i64 0]) ∧ Below w.heap.size w w' := by
  have hB0 : Below w.heap.size w (w.alloc (.cells #[.int .i64 N, .slice A bs.length c] 24)) := (Below.refl _ _).alloc (Nat.le_refl _) _
  have hR1 := (hR.below hB0 (Nat.le_refl _)).more hB0.size
  have kS := Bk.new w 24 #[.int .i64 N, .slice A bs.length c]
  have HS := Lib.hid hs
  have hlen := hc.len
  clear hs
  rcases Nat.lt_or_ge l.length 2 with h1 | h1
  · have hd : decide (l.length < 2) = true := by simpa using h1
    have hd2 : decide ((l.length : Int) < 2) = true := by simp; omega
    clear h
    go_enter Try.func12, Try.ntmps12
    go_wp2_with fail
    refine (check_any N A c bs _ hR1 hc.len).mono ?_
    rw [HS.out]
    rintro e w1 ⟨rfl, hb1⟩
    go_wp2_with fail
    go_quiet (fail)
    go_wp2_with fail
    go_ret2
    exact ⟨rfl, below_drewN (hB0.trans (hb1.mono hB0.size)) _⟩
  · have hd : decide (l.length < 2) = false := by simp; omega
    have hd2 : decide ((l.length : Int) < 2) = false := by simp; omega
    have h2 := h.resolve_left (by omega)
    clear h
    go_enter Try.func12, Try.ntmps12
    go_wp2_with fail
    refine (check_any N A c bs _ hR1 hc.len).mono ?_
    rw [HS.out]
    rintro e w1 ⟨rfl, hb1⟩
    have k1 := kS.below hb1 (by simp)
    have hB1 := hB0.trans (hb1.mono hB0.size)
    have hL1 := (hL.below hB1 (Nat.le_refl _)).more hB1.size
    have c1 := k1.cell 1
    have cl := k1.lt
    simp only [List.getElem?_toArray, List.getElem?_cons_zero, List.getElem?_cons_succ] at c1
    obtain ⟨b2, o2, rfl, hb2, e2⟩ := hL1.gt (k := 0) (by omega)
    rw [Nat.add_zero] at e2
    have hpos : 0 < l.length := by omega
    have hposz : (0 : Int) < l.length := by omega
    obtain ⟨x, hx⟩ : ∃ x, Ln.l0 l = x := ⟨_, rfl⟩
    rw [show Ln.gt l 0 = x from hx] at e2
    rw [hx] at h2
    clear hx
    by_cases h3 : x < 0
    · have h3d : decide (x < 0) = true := by simpa using h3
      clear h2
      go_wp2_with fail
      go_quiet (fail)
      go_wp2_with fail
      go_ret2
      exact ⟨rfl, below_drewN hB1 _⟩
    · have h3d : decide (x < 0) = false := by simpa using h3
      have h4 : (bs.length : Int) ≤ x := h2.resolve_left h3
      have h4d : decide ((bs.length : Int) ≤ x) = true := by simpa using h4
      have h5 : 0 ≤ x := by omega
      clear h2 h3
      go_wp2_with fail
      go_quiet (fail)
      go_wp2_with fail
      go_ret2
      exact ⟨rfl, below_drewN hB1 _⟩

set_option maxRecDepth 100000 in
set_option maxHeartbeats 1000000 in
include hR hc hL hll in
theorem cc_no (hs : Ln.check N bs = 0) {M : Nat} (hok : Ln.Ok M bs) (h1 : ¬ l.length < 2) (h2 : ¬ Ln.l0 l < 0) (h3 : ¬ bs.length ≤ Ln.l0 l) {f : Int} (hf : (Ln.bd bs (Ln.l0 l).toNat).f = f) (t s : Int) (hfl : Ln.flF bs l f = (t, s, false)) :
    Calls Try.prog 12 #[.agg #[.int .i64 N, .slice A bs.length c], .slice A2 l.length c2] w fun e w' => e = .returned (.tuple #[.bool false, .int .i64 0]) ∧ Below w.heap.size w w' := by
  have hB0 : Below w.heap.size w (w.alloc (.cells #[.int .i64 N, .slice A bs.length c] 24)) := (Below.refl _ _).alloc (Nat.le_refl _) _
  have hR1 := (hR.below hB0 (Nat.le_refl _)).more hB0.size
  have kS := Bk.new w 24 #[.int .i64 N, .slice A bs.length c]
  have HS := Lib.hid hs
  have hlen := hc.len
  clear hs
  have hd : decide (l.length < 2) = false := by simp; omega
  have hd2 : decide ((l.length : Int) < 2) = false := by simp; omega
  have hpos : 0 < l.length := by omega
  have hposz : (0 : Int) < l.length := by omega
  obtain ⟨xn, hxn⟩ : ∃ xn : Nat, Ln.l0 l = xn := ⟨(Ln.l0 l).toNat, by omega⟩
  rw [hxn] at h2 h3 hf
  rw [Int.toNat_natCast] at hf
  have hxl : xn < bs.length := by omega
  have h3d : decide ((xn : Int) < 0) = false := by simp
  have h4d : decide ((bs.length : Int) ≤ xn) = false := by simp; omega
  have h4e : decide (bs.length ≤ xn) = false := by simp; omega
  have h5 : (0 : Int) ≤ xn := Int.natCast_nonneg _
  clear h2 h3
  have HX := Lib.hid hxn
  have HF := Lib.hid hf
  have HFO := Lib.hid fun w hR hL => follow_any N A c bs A2 c2 l f w hok hR hL hll
  rw [hfl] at HFO
  clear hfl hxn hf
  go_enter Try.func12, Try.ntmps12
  go_wp2_with fail
  refine (check_any N A c bs _ hR1 hc.len).mono ?_
  rw [HS.out]
  rintro e w1 ⟨rfl, hb1⟩
  have k1 := kS.below hb1 (by simp)
  have hB1 := hB0.trans (hb1.mono hB0.size)
  have hR2 := (hR.below hB1 (Nat.le_refl _)).more hB1.size
  have hL1 := (hL.below hB1 (Nat.le_refl _)).more hB1.size
  have c0 := k1.cell 0
  have c1 := k1.cell 1
  have cl := k1.lt
  simp only [List.getElem?_toArray, List.getElem?_cons_zero, List.getElem?_cons_succ] at c0 c1
  obtain ⟨b2, o2, rfl, hb2, e2⟩ := hL1.gt (k := 0) hpos
  rw [Nat.add_zero, show Ln.gt l 0 = (xn : Int) from HX.out] at e2
  obtain ⟨b3, o3, rfl, hb3, f0, _, _, _⟩ := hR2.bound hxl
  rw [← Ln.bd_eq hxl, HF.out] at f0
  go_wp2_with fail
  go_quiet (fail)
  go_wp2_with fail
  go_quiet (fail)
  go_wp2_with fail
  refine (HFO.out _ (rd_drewN hR2 _) (rd_drewN hL1 _)).mono ?_
  rintro e w2 ⟨rfl, hbx⟩
  have hb2 := (below_drewN (Below.refl w1.heap.size w1) _).trans hbx
  have hB2 := hB1.trans (hb2.mono hB1.size)
  go_wp2_with fail
  go_ret2
  exact ⟨rfl, hB2⟩

set_option maxRecDepth 100000 in
set_option maxHeartbeats 1000000 in
include hR hc hL hll in
theorem cc_else (hs : Ln.check N bs = 0) {M : Nat} (hok : Ln.Ok M bs) (h1 : ¬ l.length < 2) (h2 : ¬ Ln.l0 l < 0) (h3 : ¬ bs.length ≤ Ln.l0 l) {f : Int} (hf : (Ln.bd bs (Ln.l0 l).toNat).f = f) (t s : Int) (hne : ¬ t = f) (hfl : Ln.flF bs l f = (t, s, true)) :
    Calls Try.prog 12 #[.agg #[.int .i64 N, .slice A bs.length c], .slice A2 l.length c2] w fun e w' => e = .returned (.tuple #[.bool false, .int .i64 0]) ∧ Below w.heap.size w w' := by
  have hnd : (t == f) = false := by simp [hne]
  clear hne
  have hB0 : Below w.heap.size w (w.alloc (.cells #[.int .i64 N, .slice A bs.length c] 24)) := (Below.refl _ _).alloc (Nat.le_refl _) _
  have hR1 := (hR.below hB0 (Nat.le_refl _)).more hB0.size
  have kS := Bk.new w 24 #[.int .i64 N, .slice A bs.length c]
  have HS := Lib.hid hs
  have hlen := hc.len
  clear hs
  have hd : decide (l.length < 2) = false := by simp; omega
  have hd2 : decide ((l.length : Int) < 2) = false := by simp; omega
  have hpos : 0 < l.length := by omega
  have hposz : (0 : Int) < l.length := by omega
  obtain ⟨xn, hxn⟩ : ∃ xn : Nat, Ln.l0 l = xn := ⟨(Ln.l0 l).toNat, by omega⟩
  rw [hxn] at h2 h3 hf
  rw [Int.toNat_natCast] at hf
  have hxl : xn < bs.length := by omega
  have h3d : decide ((xn : Int) < 0) = false := by simp
  have h4d : decide ((bs.length : Int) ≤ xn) = false := by simp; omega
  have h4e : decide (bs.length ≤ xn) = false := by simp; omega
  have h5 : (0 : Int) ≤ xn := Int.natCast_nonneg _
  clear h2 h3
  have HX := Lib.hid hxn
  have HF := Lib.hid hf
  have HFO := Lib.hid fun w hR hL => follow_any N A c bs A2 c2 l f w hok hR hL hll
  rw [hfl] at HFO
  clear hfl hxn hf
  go_enter Try.func12, Try.ntmps12
  go_wp2_with fail
  refine (check_any N A c bs _ hR1 hc.len).mono ?_
  rw [HS.out]
  rintro e w1 ⟨rfl, hb1⟩
  have k1 := kS.below hb1 (by simp)
  have hB1 := hB0.trans (hb1.mono hB0.size)
  have hR2 := (hR.below hB1 (Nat.le_refl _)).more hB1.size
  have hL1 := (hL.below hB1 (Nat.le_refl _)).more hB1.size
  have c0 := k1.cell 0
  have c1 := k1.cell 1
  have cl := k1.lt
  simp only [List.getElem?_toArray, List.getElem?_cons_zero, List.getElem?_cons_succ] at c0 c1
  obtain ⟨b2, o2, rfl, hb2, e2⟩ := hL1.gt (k := 0) hpos
  rw [Nat.add_zero, show Ln.gt l 0 = (xn : Int) from HX.out] at e2
  obtain ⟨b3, o3, rfl, hb3, f0, _, _, _⟩ := hR2.bound hxl
  rw [← Ln.bd_eq hxl, HF.out] at f0
  go_wp2_with fail
  go_quiet (fail)
  go_wp2_with fail
  go_quiet (fail)
  go_wp2_with fail
  refine (HFO.out _ (rd_drewN hR2 _) (rd_drewN hL1 _)).mono ?_
  rintro e w2 ⟨rfl, hbx⟩
  have hb2 := (below_drewN (Below.refl w1.heap.size w1) _).trans hbx
  have hB2 := hB1.trans (hb2.mono hB1.size)
  go_wp2_with fail
  go_ret2
  exact ⟨rfl, hB2⟩

set_option maxRecDepth 100000 in
set_option maxHeartbeats 1000000 in
include hR hc hL hll in
theorem cc_pos (hs : Ln.check N bs = 0) {M : Nat} (hok : Ln.Ok M bs) (h1 : ¬ l.length < 2) (h2 : ¬ Ln.l0 l < 0) (h3 : ¬ bs.length ≤ Ln.l0 l) {f : Int} (hf : (Ln.bd bs (Ln.l0 l).toNat).f = f) (t s : Int) (h0 : 0 ≤ s) (hfl : Ln.flF bs l f = (f, s, true)) :
    Calls Try.prog 12 #[.agg #[.int .i64 N, .slice A bs.length c], .slice A2 l.length c2] w fun e w' => e = .returned (.tuple #[.bool false, .int .i64 0]) ∧ Below w.heap.size w w' := by
  have hB0 : Below w.heap.size w (w.alloc (.cells #[.int .i64 N, .slice A bs.length c] 24)) := (Below.refl _ _).alloc (Nat.le_refl _) _
  have hR1 := (hR.below hB0 (Nat.le_refl _)).more hB0.size
  have kS := Bk.new w 24 #[.int .i64 N, .slice A bs.length c]
  have HS := Lib.hid hs
  have hlen := hc.len
  clear hs
  have hd : decide (l.length < 2) = false := by simp; omega
  have hd2 : decide ((l.length : Int) < 2) = false := by simp; omega
  have hpos : 0 < l.length := by omega
  have hposz : (0 : Int) < l.length := by omega
  obtain ⟨xn, hxn⟩ : ∃ xn : Nat, Ln.l0 l = xn := ⟨(Ln.l0 l).toNat, by omega⟩
  rw [hxn] at h2 h3 hf
  rw [Int.toNat_natCast] at hf
  have hxl : xn < bs.length := by omega
  have h3d : decide ((xn : Int) < 0) = false := by simp
  have h4d : decide ((bs.length : Int) ≤ xn) = false := by simp; omega
  have h4e : decide (bs.length ≤ xn) = false := by simp; omega
  have h5 : (0 : Int) ≤ xn := Int.natCast_nonneg _
  clear h2 h3
  have HX := Lib.hid hxn
  have HF := Lib.hid hf
  have HFO := Lib.hid fun w hR hL => follow_any N A c bs A2 c2 l f w hok hR hL hll
  rw [hfl] at HFO
  clear hfl hxn hf
  go_enter Try.func12, Try.ntmps12
  go_wp2_with fail
  refine (check_any N A c bs _ hR1 hc.len).mono ?_
  rw [HS.out]
  rintro e w1 ⟨rfl, hb1⟩
  have k1 := kS.below hb1 (by simp)
  have hB1 := hB0.trans (hb1.mono hB0.size)
  have hR2 := (hR.below hB1 (Nat.le_refl _)).more hB1.size
  have hL1 := (hL.below hB1 (Nat.le_refl _)).more hB1.size
  have c0 := k1.cell 0
  have c1 := k1.cell 1
  have cl := k1.lt
  simp only [List.getElem?_toArray, List.getElem?_cons_zero, List.getElem?_cons_succ] at c0 c1
  obtain ⟨b2, o2, rfl, hb2, e2⟩ := hL1.gt (k := 0) hpos
  rw [Nat.add_zero, show Ln.gt l 0 = (xn : Int) from HX.out] at e2
  obtain ⟨b3, o3, rfl, hb3, f0, _, _, _⟩ := hR2.bound hxl
  rw [← Ln.bd_eq hxl, HF.out] at f0
  go_wp2_with fail
  go_quiet (fail)
  go_wp2_with fail
  go_quiet (fail)
  go_wp2_with fail
  refine (HFO.out _ (rd_drewN hR2 _) (rd_drewN hL1 _)).mono ?_
  rintro e w2 ⟨rfl, hbx⟩
  have hb2 := (below_drewN (Below.refl w1.heap.size w1) _).trans hbx
  have hB2 := hB1.trans (hb2.mono hB1.size)
  go_wp2_with fail
  go_ret2
  exact ⟨rfl, hB2⟩

set_option maxRecDepth 100000 in
set_option maxHeartbeats 1000000 in
include hR hc hL hll in
theorem cc_yes (hs : Ln.check N bs = 0) {M : Nat} (hok : Ln.Ok M bs) (h1 : ¬ l.length < 2) (h2 : ¬ Ln.l0 l < 0) (h3 : ¬ bs.length ≤ Ln.l0 l) {f : Int} (hf : (Ln.bd bs (Ln.l0 l).toNat).f = f) (t s : Int) (h0 : s < 0) (hfl : Ln.flF bs l f = (f, s, true)) :
    Calls Try.prog 12 #[.agg #[.int .i64 N, .slice A bs.length c], .slice A2 l.length c2] w fun e w' => e = .returned (.tuple #[.bool (Ln.onceB bs l), .int .i64 0]) ∧ Below w.heap.size w w' := by
  have HALL := Lib.hid (Ln.flF_all hok hc.live hfl)
  have hB0 : Below w.heap.size w (w.alloc (.cells #[.int .i64 N, .slice A bs.length c] 24)) := (Below.refl _ _).alloc (Nat.le_refl _) _
  have hR1 := (hR.below hB0 (Nat.le_refl _)).more hB0.size
  have kS := Bk.new w 24 #[.int .i64 N, .slice A bs.length c]
  have HS := Lib.hid hs
  have hlen := hc.len
  clear hs
  have hd : decide (l.length < 2) = false := by simp; omega
  have hd2 : decide ((l.length : Int) < 2) = false := by simp; omega
  have hpos : 0 < l.length := by omega
  have hposz : (0 : Int) < l.length := by omega
  obtain ⟨xn, hxn⟩ : ∃ xn : Nat, Ln.l0 l = xn := ⟨(Ln.l0 l).toNat, by omega⟩
  rw [hxn] at h2 h3 hf
  rw [Int.toNat_natCast] at hf
  have hxl : xn < bs.length := by omega
  have h3d : decide ((xn : Int) < 0) = false := by simp
  have h4d : decide ((bs.length : Int) ≤ xn) = false := by simp; omega
  have h4e : decide (bs.length ≤ xn) = false := by simp; omega
  have h5 : (0 : Int) ≤ xn := Int.natCast_nonneg _
  clear h2 h3
  have HX := Lib.hid hxn
  have HF := Lib.hid hf
  have HFO := Lib.hid fun w hR hL => follow_any N A c bs A2 c2 l f w hok hR hL hll
  rw [hfl] at HFO
  clear hfl hxn hf
  go_enter Try.func12, Try.ntmps12
  go_wp2_with fail
  refine (check_any N A c bs _ hR1 hc.len).mono ?_
  rw [HS.out]
  rintro e w1 ⟨rfl, hb1⟩
  have k1 := kS.below hb1 (by simp)
  have hB1 := hB0.trans (hb1.mono hB0.size)
  have hR2 := (hR.below hB1 (Nat.le_refl _)).more hB1.size
  have hL1 := (hL.below hB1 (Nat.le_refl _)).more hB1.size
  have c0 := k1.cell 0
  have c1 := k1.cell 1
  have cl := k1.lt
  simp only [List.getElem?_toArray, List.getElem?_cons_zero, List.getElem?_cons_succ] at c0 c1
  obtain ⟨b2, o2, rfl, hb2, e2⟩ := hL1.gt (k := 0) hpos
  rw [Nat.add_zero, show Ln.gt l 0 = (xn : Int) from HX.out] at e2
  obtain ⟨b3, o3, rfl, hb3, f0, _, _, _⟩ := hR2.bound hxl
  rw [← Ln.bd_eq hxl, HF.out] at f0
  go_wp2_with fail
  go_quiet (fail)
  go_wp2_with fail
  go_quiet (fail)
  go_wp2_with fail
  refine (HFO.out _ (rd_drewN hR2 _) (rd_drewN hL1 _)).mono ?_
  rintro e w2 ⟨rfl, hbx⟩
  have hb2 := (below_drewN (Below.refl w1.heap.size w1) _).trans hbx
  have hB2 := hB1.trans (hb2.mono hB1.size)
  have k2 := k1.below hb2 k1.lt
  have hR4 := (hR2.below hb2 (Nat.le_refl _)).more hb2.size
  have hL4 := (hL1.below hb2 (Nat.le_refl _)).more hb2.size
  clear c0 c1 cl
  have c0 := k2.cell 0
  have c1 := k2.cell 1
  have cl := k2.lt
  simp only [List.getElem?_toArray, List.getElem?_cons_zero, List.getElem?_cons_succ] at c0 c1
  go_wp2_with fail
  refine (leavesOnce_any N _ c bs _ c2 l _ hok hR4 hL4 hll HALL.out).mono ?_
  rintro e w3 ⟨rfl, hb3⟩
  go_wp2_with fail
  go_ret2
  exact ⟨rfl, hB2.trans (hb3.mono hB2.size)⟩

set_option maxRecDepth 100000 in
set_option maxHeartbeats 1000000 in
include hR hc hL hll in
theorem checkCircle_any : Calls Try.prog 12 #[.agg #[.int .i64 N, .slice A bs.length c], .slice A2 l.length c2] w fun e w' => e = .returned (.tuple #[.bool (Ln.ccF N bs l).1, .int .i64 (Ln.ccF N bs l).2]) ∧ Below w.heap.size w w' := by
  by_cases hs : Ln.check N bs = 0
  · obtain ⟨hok, _⟩ := Ln.ok_of_check hs
    by_cases h : l.length < 2 ∨ Ln.l0 l < 0 ∨ bs.length ≤ Ln.l0 l
    · rw [Ln.ccF_small hs h]
      exact cc_small N A c bs A2 c2 l w hR hc hL hll hs h
    · obtain ⟨f, hf⟩ : ∃ f, (Ln.bd bs (Ln.l0 l).toNat).f = f := ⟨_, rfl⟩
      obtain ⟨⟨t, s, is⟩, hfl⟩ : ∃ r, Ln.flF bs l f = r := ⟨_, rfl⟩
      rw [Ln.ccF_big hs h hf hfl]
      have h1 : ¬ l.length < 2 := fun e => h (.inl e)
      have h2 : ¬ Ln.l0 l < 0 := fun e => h (.inr (.inl e))
      have h3 : ¬ bs.length ≤ Ln.l0 l := fun e => h (.inr (.inr e))
      cases is
      · exact cc_no N A c bs A2 c2 l w hR hc hL hll hs hok h1 h2 h3 hf t s hfl
      · by_cases ht : t = f
        · subst ht
          rcases Int.lt_or_le s 0 with h0 | h0
          · simp only [decide_true, Bool.true_and, h0]
            exact cc_yes N A c bs A2 c2 l w hR hc hL hll hs hok h1 h2 h3 hf t s h0 hfl
          · simp only [decide_true, Bool.true_and, show ¬ s < 0 by omega, decide_false, Bool.false_and]
            exact cc_pos N A c bs A2 c2 l w hR hc hL hll hs hok h1 h2 h3 hf t s h0 hfl
        · simp only [ht, decide_false, Bool.true_and, Bool.false_and]
          exact cc_else N A c bs A2 c2 l w hR hc hL hll hs hok h1 h2 h3 hf t s ht hfl
  · have hB0 : Below w.heap.size w (w.alloc (.cells #[.int .i64 N, .slice A bs.length c] 24)) := (Below.refl _ _).alloc (Nat.le_refl _) _
    have hR1 := (hR.below hB0 (Nat.le_refl _)).more hB0.size
    rw [show Ln.ccF N bs l = (false, Ln.check N bs) from by rw [Ln.ccF, if_neg hs]]
    have hne : (Ln.check N bs != 0) = true := by simp [hs]
    clear hs
    go_enter Try.func12, Try.ntmps12
    go_wp2_with fail
    refine (check_any N A c bs _ hR1 hc.len).mono ?_
    rintro e w1 ⟨rfl, hb1⟩
    go_wp2_with fail
    go_ret2
    exact ⟨rfl, hB0.trans (hb1.mono hB0.size)⟩
end

end Go.Proofs.Yteiaofgkmgllcaa

