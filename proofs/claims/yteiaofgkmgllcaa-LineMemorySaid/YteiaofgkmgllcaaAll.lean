/-
  Rows in the middle of a block; allDistances.
-/
import Derived.Deep.MidRow
import Derived.Deep.OwnRows
import Derived.Test.YteiaofgkmgllcaaSpan
import Derived.Test.YteiaofgkmgllcaaMath
set_option linter.unusedVariables false
set_option linter.unusedSimpArgs false
namespace Go.Proofs.Yteiaofgkmgllcaa
open Go.RowKit

theorem Bk.cells {g : Nat} {t : TypeId} (C0 : List Int) (d : List Int) : ∀ {w : World} (A0 B0 : List Int), Bk w g t (av (A0 ++ B0 ++ C0)) → B0.length = d.length → Bk (w.setCells g A0.length (ints d)) g t (av (A0 ++ d ++ C0)) := by
  induction d with
  | nil =>
    intro w A0 B0 h hl
    obtain rfl : B0 = [] := List.eq_nil_of_length_eq_zero hl
    exact h
  | cons x d ih =>
    intro w A0 B0 h hl
    rcases B0 with _ | ⟨y, B0⟩
    · simp at hl
    · have h2 := h.set A0.length (.int .i64 x)
      rw [av_set, show (A0 ++ (y :: B0) ++ C0).set A0.length x = (A0 ++ [x]) ++ B0 ++ C0 from by simp] at h2
      have h3 := ih (A0 ++ [x]) B0 h2 (by simpa using hl)
      rw [List.length_append, show (A0 ++ [x]) ++ d ++ C0 = A0 ++ (x :: d) ++ C0 from by simp] at h3
      exact h3
theorem Below.setCells {C g : Nat} (hC : C ≤ g) : ∀ (vs : List Value) (o : Nat) {w w' : World}, Below C w w' → Below C w (w'.setCells g o vs)
  | [], _, _, _, h => h
  | v :: vs, o, _, _, h => Below.setCells hC vs (o + 1) (h.setCell (p := ⟨g, o, none⟩) hC v)
theorem Bk.far_cells {g k : Nat} {t : TypeId} {cs : Array Value} (hk : g ≠ k) : ∀ (vs : List Value) (o : Nat) {w : World}, Bk w g t cs → Bk (w.setCells k o vs) g t cs
  | [], _, _, h => h
  | v :: vs, o, _, h => Bk.far_cells hk vs (o + 1) (h.far (p := ⟨k, o, none⟩) hk v)
theorem size_setCells (g : Nat) : ∀ (vs : List Value) (o : Nat) (w : World), (w.setCells g o vs).heap.size = w.heap.size
  | [], _, _ => rfl
  | v :: vs, o, w => by rw [World.setCells, size_setCells g vs, size_setCell]
theorem Bk.there {w : World} {g : Nat} {t : TypeId} {d : List Int} (h : Bk w g t (av d)) {o n : Nat} (hn : o + n ≤ d.length) : w.there g o n := fun j hj => by
  rw [h.cell, av_at (by omega)]
  exact ⟨rfl, h.frozen _⟩
theorem av_list (d : List Int) : (av d).toList = ints d := by simp [av, ints]

theorem gt_zerosN (n i : Nat) : Ln.gt (Ln.zerosN n) i = 0 := by
  unfold Ln.gt Ln.zerosN
  rw [List.getD_eq_getElem?_getD, List.getElem?_replicate]
  split <;> rfl
theorem made_rows (n : Nat) : madeCells (av Ln.zeros) n = av (Ln.zerosN n) := by
  apply Array.ext_getElem?
  intro i
  unfold madeCells
  by_cases h : i < n
  · have hm : i % 128 < 128 := Nat.mod_lt _ (by omega)
    have hs : (av Ln.zeros).size = 128 := by rw [av_size, Ln.zeros_length]
    have hx : (av Ln.zeros)[i % 128]? = some (.int .i64 0) := by
      rw [av_at (by rw [Ln.zeros_length]; exact hm)]
      exact congrArg (fun x => some (Value.int .i64 x)) (gt_zerosN 128 _)
    have hy : (av Ln.zeros)[i % 128]! = .int .i64 0 := by rw [getElem!_def, hx]
    rw [Array.getElem?_map, Array.getElem?_range, if_pos h, Option.map_some, hs, hy, av_at (by rw [Ln.zerosN_length]; exact h), gt_zerosN]
  · rw [Array.getElem?_eq_none (by simp; omega), Array.getElem?_eq_none (by rw [av_size, Ln.zerosN_length]; omega)]

theorem wpList_make_exact {P : Program} (w : World) {ops : Array Oper} {rest : List Oper} {o : Oper} {a : Act} {Q : Exit → Act → World → Prop}
    (hg : o.guard = none) (l c : Operand) (t : TypeId) (hop : o.op = Op.makeSlice t l c)
    (e : TypeId) (i : TypeInfo) (z : Value) (size bytes : Nat) (ht : P.underlying t = some (.slice e)) (hi : P.info? e = some i) (hz : i.zero = some z) (hsize : i.size = size) (hby : i.bytes = bytes)
    (n : Nat) (hl : a.eval l = .int .i64 (n : Int)) (hc : a.eval c = .int .i64 (n : Int)) (hbytes : bytes * n ≤ 281474976710656) (h63 : n ≤ 9223372036854775807)
    (cells : Array Value) (hcs : madeCells z.cells (n * size) = cells)
    (hK : wpList P ops Q rest (a.put o.dst (.slice (some ⟨w.heap.size, 0, none⟩) n n)) (w.alloc (.cells cells e))) :
    wpList P ops Q (o :: rest) a w := by
  refine wpList_plain hg fun K hK' => ?_
  have hb' : (i.bytes : Int) * (n : Int) ≤ 281474976710656 := by
    have h : ((i.bytes * n : Nat) : Int) ≤ 281474976710656 := by rw [hby]; omega
    rwa [Int.natCast_mul] at h
  have hr := run_make (P := P) w t e i z ht hi hz .i64 .i64 n n (by omega) (Int.le_refl _) hb' (by omega)
  simp only [Int.toNat_natCast, hsize, hcs] at hr
  unfold Oper.wp
  simp [execOp, hop, hl, hc, hr, Result.andThen]
  exact hK' _ _ hK

theorem info94' : (Try.prog.info? 89).map (fun i => (i.zero.map (·.cells), i.size, i.bytes)) = some (some (av Ln.zeros), 128, 1024) := by kernel_rfl
theorem info94 : ∃ i z, Try.prog.info? 89 = some i ∧ i.zero = some z ∧ z.cells = av Ln.zeros ∧ i.size = 128 ∧ i.bytes = 1024 := by
  obtain ⟨i, hi, h⟩ := Option.map_eq_some_iff.1 info94'
  simp only [Prod.mk.injEq] at h
  obtain ⟨z, hz, hc⟩ := Option.map_eq_some_iff.1 h.1
  exact ⟨i, z, hi, hz, hc, h.2.1, h.2.2⟩

set_option maxRecDepth 100000 in
set_option maxHeartbeats 1000000 in
theorem allDistances_any {N : Nat} {bs : List Ln.Bd} (hok : Ln.Ok N bs) (B nb : Nat) (A : Option Addr) (c : Nat) (fr : List Value) (w : World) (hN : IsNet w B nb N bs A c fr) (hBw : B ≤ w.heap.size) :
    Calls Try.prog 45 #[.pointer (some ⟨nb, 0, none⟩)] w fun e w' => ∃ g, e = .returned (.slice (some ⟨g, 0, none⟩) N N) ∧ w.heap.size ≤ g ∧ Bk w' g 89 (av (Ln.adF bs N)) ∧ Below w.heap.size w w' := by
  obtain ⟨i0, z0, hi0, hz0, hz1, hz2, hz3⟩ := info94
  have htop := hok.top
  have c0 := (hN.blk.cell 0).trans (ncells_0 _ _ _)
  have hnl := hN.blk.lt
  have hnB := hN.lt
  go_enter Try.func45, Try.ntmps45
  go_wp2_with (refine wpList_make_exact _ rfl _ _ 78 rfl 89 i0 z0 128 1024 Try.underlying78 hi0 hz0 hz2 hz3 N rfl rfl (by omega) (by omega) (av (Ln.zerosN (N * 128))) (by rw [hz1]; exact made_rows _) ?_)
  have hB0 : Below w.heap.size w (w.alloc (.cells (av (Ln.zerosN (N * 128))) 89)) := (Below.refl _ _).alloc (Nat.le_refl _) _
  have k0 := Bk.new w 89 (av (Ln.zerosN (N * 128)))
  go_loopw [12] (fun i wr => ∃ k : Nat, k ≤ N ∧ i = .int .i64 k ∧ Below w.heap.size w wr ∧ Bk wr w.heap.size 89 (av (Ln.adA bs N k ++ Ln.zerosN ((N - k) * 128))))
    (fun i _ => N - (intOf i).toNat)
  case atStart => exact ⟨0, by omega, rfl, hB0, k0⟩
  case round =>
    obtain ⟨k, hk, rfl, hB, k1⟩ := hrel
    have hsz := k1.lt
    by_cases hlt : k < N
    · have hN' := hN.below hB hBw
      have hBs := hB.size
      have hdl := (Ln.distF_small hok k).1
      have hal := Ln.adA_length hok k
      have hsp : Ln.adA bs N k ++ Ln.zerosN ((N - k) * 128) = Ln.adA bs N k ++ Ln.zerosN 128 ++ Ln.zerosN ((N - (k + 1)) * 128) := by
        rw [List.append_assoc, ← Ln.zerosN_add]
        congr 2
        omega
      rw [hsp] at k1
      have hnx : Ln.adA bs N (k + 1) ++ Ln.zerosN ((N - (k + 1)) * 128) = Ln.adA bs N k ++ Ln.distF bs N k ++ Ln.zerosN ((N - (k + 1)) * 128) := by rw [Ln.adA_succ]
      have HNX := Lib.hid hnx
      have HAL := Lib.hid hal
      have HDL := Lib.hid hdl
      have hth : ∀ w', Below wr.heap.size wr w' → w'.there w.heap.size (k * 128) (av (Ln.distF bs N k)).size := fun w' hb => by
        refine (k1.below hb hsz).there ?_
        rw [av_size, hdl]
        simp only [List.length_append, hal, Ln.zerosN_length]
        omega
      have HTH := Lib.hid hth
      have K1 := Lib.hid k1
      clear hth hsp hnx k1 hal hdl
      go_wp2_with (first
        | (go_at_call 50; refine (distances_any hok B nb A c fr k (by omega) _ hN' (by omega)).mono ?_; rintro e w1 ⟨rfl, hb1⟩)
        | (refine wpList_store_mid rfl 89 (.tmp 20) (.tmp 19) rfl w.heap.size (k * 128) (av (Ln.distF bs N k)) rfl rfl (HTH.out _ hb1) (av_len94 HDL.out) (av_one _) ?_))
      go_roundw
      case rel =>
        have k2 := K1.out.below hb1 hsz
        have k3 := Bk.cells _ (Ln.distF bs N k) _ _ k2 (by rw [Ln.zerosN_length, HDL.out])
        rw [HAL.out, ← av_list, ← HNX.out] at k3
        exact ⟨k + 1, by omega, by go_num, Below.setCells (Nat.le_refl _) _ _ (hB.trans (hb1.mono hBs)), k3⟩
      case measure => simp [intOf]; omega
    · obtain rfl : k = N := by omega
      go_wp2_with fail
      go_ret
      rw [Nat.sub_self, Nat.zero_mul] at k1
      exact ⟨_, rfl, Nat.le_refl _, by simpa [Ln.zerosN, Ln.adF, Ln.adA] using k1, hB⟩

end Go.Proofs.Yteiaofgkmgllcaa
