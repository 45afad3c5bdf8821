/-
  The reference's Some: the function that gives the points of a consistent system their values.
-/
import Derived.Test.YteiaofgkmgllcaaSomM
import Derived.Test.YteiaofgkmgllcaaDsR
import Derived.Test.YteiaofgkmgllcaaSome
set_option linter.unusedVariables false
set_option linter.unusedSimpArgs false
namespace Go.Proofs.Yteiaofgkmgllcaa
open Go.RowKit

namespace Ln
/-- Which points are given, when the points below k have been gone through. -/
def gvK (bs : List Bd) (n k : Nat) : List Bool := (List.range n).map (fun g => decide (g ∈ (stK bs n k).2))
theorem gvK_length (bs : List Bd) (n k : Nat) : (gvK bs n k).length = n := by simp [gvK]
theorem gvK_at {bs : List Bd} {n k g : Nat} (hg : g < n) : (gvK bs n k)[g]'(by rw [gvK_length]; exact hg) = decide (g ∈ (stK bs n k).2) := by simp [gvK]
theorem gvK_zero (bs : List Bd) (n : Nat) : gvK bs n 0 = f1 (distF bs n 0) n := by
  unfold gvK f1
  refine List.map_congr_left fun g hg => ?_
  have hg' := List.mem_range.1 hg
  have h := stK_mem bs (k := 0) hg'
  by_cases e : gt (distF bs n 0) g = NONE
  · have : ¬ g ∈ (stK bs n 0).2 := fun h2 => by
      rcases h.1 h2 with h3 | h3
      · exact h3 e
      · omega
    simp [this, e]
  · simp [h.2 (.inl e), e]
theorem gvK_step {bs : List Bd} {n k : Nat} (hk : k < n) : gvK bs n (k + 1) = (gvK bs n k).set k true := by
  apply List.ext_getElem
  · simp [gvK]
  · intro g h1 h2
    have hg : g < n := by rw [gvK_length] at h1; exact h1
    rw [gvK_at hg, List.getElem_set]
    have a := stK_mem bs (k := k + 1) hg
    have b := stK_mem bs (k := k) hg
    by_cases e : k = g
    · subst e
      rw [if_pos rfl]
      simp [a.2 (.inr (by omega))]
    · rw [if_neg e, gvK_at hg]
      have : g ∈ (stK bs n (k + 1)).2 ↔ g ∈ (stK bs n k).2 := by
        rw [a, b]
        constructor
        · rintro (h | h)
          · exact .inl h
          · exact .inr (by omega)
        · rintro (h | h)
          · exact .inl h
          · exact .inr (by omega)
      simp [this]
theorem gvK_skip {bs : List Bd} {n k : Nat} (hk : k < n) (h : k ∈ (stK bs n k).2) : gvK bs n (k + 1) = gvK bs n k := by rw [gvK, stK_skip hk h, gvK]
end Ln

theorem max_if (a b : Int) : max a b = if a < b then b else a := by rw [Int.max_def]; split <;> split <;> omega

/-- The matrix of a consistent system, by its points. -/
theorem matrix_fine {n : Nat} {bs : List Ln.Bd} (hok : Ln.Ok n bs) (hl : ∀ b ∈ bs, b.gone = false) (hNN : Ln.NoNeg bs) (h14 : n ≤ 14) (A : Option Addr) (c : Nat) (w : World) (hR : Rd w w.heap.size 4 A bs.length (bcells bs)) :
    Calls Try.prog 81 #[.agg #[.int .i64 (n : Int), .slice A bs.length c]] w fun e w' => ∃ G blk D, e = .returned (.slice (some ⟨G, 0, none⟩) n n) ∧ MM w' G n blk D ∧ Ap G n blk ∧ w.heap.size ≤ G ∧ Below w.heap.size w w' ∧
      (∀ a b, a < n → b < n → D a b = Ln.ffar (Ln.gt (Ln.distF bs n a) b)) ∧ ∀ a b, a < n → b < n → -100000000000 ≤ (D a b).1 ∧ (D a b).1 ≤ 100000000000 := by
  refine (matrix_any hok hl hNN h14 A c w hR).mono ?_
  rintro e w' ⟨G, blk, rfl, hM, hA, hG, hb⟩
  refine ⟨G, blk, _, rfl, hM, hA, hG, hb, fun a b ha hb => Ln.mtx_at hok hl hNN ha hb, fun a b ha hb => ?_⟩
  have h1 := (Ln.fwC_ok hok hl hNN n (Nat.le_refl _)).1.small hok hNN (Ln.mtop_pos _) ha hb
  have hm : Ln.mtop n ≤ Ln.mtop 14 := Ln.mtop_mono h14
  rw [Ln.mtop_14] at hm
  have : (n : Int) ≤ 14 := by omega
  show -100000000000 ≤ (Ln.fwC n (Ln.edK bs bs.length) n a b).1 ∧ (Ln.fwC n (Ln.edK bs bs.length) n a b).1 ≤ 100000000000
  omega

/-- What stands while the values are given. -/
structure SomI (w W : World) (sb G gy gg n : Nat) (A : Option Addr) (c : Nat) (bs : List Ln.Bd) (blk : Nat → Nat) (D : Nat → Nat → Int × Bool) (y : List Int) (gv : List Bool) : Prop where
  sys : Bk W sb 24 #[.int .i64 (n : Int), .slice A bs.length c]
  mm : MM W G n blk D
  out : Bk W gy 3 (av y)
  giv : Bk W gg 4 (bv gv)
  bl : Below w.heap.size w W
section
variable {w W W' : World} {sb G gy gg n : Nat} {A : Option Addr} {c : Nat} {bs : List Ln.Bd} {blk : Nat → Nat} {D : Nat → Nat → Int × Bool} {y : List Int} {gv : List Bool}
theorem SomI.below (h : SomI w W sb G gy gg n A c bs blk D y gv) (hb : Below W.heap.size W W') : SomI w W' sb G gy gg n A c bs blk D y gv :=
  ⟨h.sys.below hb h.sys.lt, h.mm.below hb, h.out.below hb h.out.lt, h.giv.below hb h.giv.lt, h.bl.trans (hb.mono h.bl.size)⟩
theorem SomI.alloc (h : SomI w W sb G gy gg n A c bs blk D y gv) (o : Obj) : SomI w (W.alloc o) sb G gy gg n A c bs blk D y gv := h.below ((Below.refl _ _).alloc (Nat.le_refl _) _)
theorem SomI.drewN (h : SomI w W sb G gy gg n A c bs blk D y gv) (k : Nat) : SomI w (W.drewN k) sb G gy gg n A c bs blk D y gv := h.below (below_drewN (Below.refl _ _) k)
/-- A store into a block of one's own. -/
theorem SomI.far (h : SomI w W sb G gy gg n A c bs blk D y gv) {p : Addr} (h1 : sb ≠ p.block) (h2 : G ≠ p.block) (h3 : ∀ a, a < n → blk a ≠ p.block) (h4 : gy ≠ p.block) (h5 : gg ≠ p.block) (h6 : w.heap.size ≤ p.block) (v : Value) :
    SomI w (W.setCell p v) sb G gy gg n A c bs blk D y gv :=
  ⟨h.sys.far h1 v, h.mm.far h2 h3 v, h.out.far h4 v, h.giv.far h5 v, h.bl.setCell h6 v⟩
theorem SomI.put (h : SomI w W sb G gy (gy + 1) n A c bs blk D y gv) (h1 : sb < gy) (h2 : G < gy) (h3 : ∀ a, a < n → blk a < gy) (h6 : w.heap.size ≤ gy) (k : Nat) (x : Int) :
    SomI w ((W.setCell ⟨gy, k, none⟩ (.int .i64 x)).setCell ⟨gy + 1, k, none⟩ (.bool true)) sb G gy (gy + 1) n A c bs blk D (y.set k x) (gv.set k true) := by
  refine ⟨(h.sys.far (by simp; omega) _).far (by simp; omega) _, (h.mm.far (by simp; omega) (fun a ha => by have := h3 a ha; simp; omega) _).far (by simp; omega) (fun a ha => by have := h3 a ha; simp; omega) _, ?_, ?_, (h.bl.setCell (by simpa using h6) _).setCell (by simp; omega) _⟩
  · have := (h.out.set k (.int .i64 x)).far (p := ⟨gy + 1, k, none⟩) (by simp) (.bool true)
    rw [av_set] at this
    exact this
  · have := (h.giv.far (p := ⟨gy, k, none⟩) (by simp) (.int .i64 x)).set k (.bool true)
    rw [bv_set] at this
    exact this
end

set_option maxRecDepth 100000 in
set_option maxHeartbeats 8000000 in
theorem rsome_run {n : Nat} {bs : List Ln.Bd} (hok : Ln.Ok n bs) (hl : ∀ b ∈ bs, b.gone = false) (hNN : Ln.NoNeg bs) (h14 : n ≤ 14) (A : Option Addr) (c : Nat) (w : World) (hR : Rd w w.heap.size 4 A bs.length (bcells bs)) :
    Calls Try.prog 56 #[.agg #[.int .i64 (n : Int), .slice A bs.length c]] w fun e w' => ∃ g, e = .returned (.slice (some ⟨g, 0, none⟩) n n) ∧ w.heap.size ≤ g ∧ Bk w' g 3 (av (Ln.valF bs n)) ∧ Below w.heap.size w w' := by
  obtain ⟨i0, hi0, hz0, hz1, hz2⟩ := info_parts info3
  obtain ⟨i1, hi1, hy0, hy1, hy2⟩ := info_parts info4
  have hpos := hok.pos
  have hB0 : Below w.heap.size w (w.alloc (.cells #[.int .i64 (n : Int), .slice A bs.length c] 24)) := (Below.refl _ _).alloc (Nat.le_refl _) _
  have hR1 := (hR.below hB0 (Nat.le_refl _)).more hB0.size
  have k0 := Bk.new w 24 #[.int .i64 (n : Int), .slice A bs.length c]
  have hmx := matrix_fine hok hl hNN h14 A c (w.alloc (.cells #[.int .i64 (n : Int), .slice A bs.length c] 24)) hR1
  have hat := fun p q (hp : p < n) (hq : q < n) => Ln.adF_at hok (a := p) (p := q) hp (by omega)
  have hst := fun k (hk : k ≤ n) => Ln.stK_small hok hNN h14 hk
  have hvf := Ln.stK_all bs n
  obtain ⟨val, hval⟩ : ∃ val, Ln.valF bs n = val := ⟨_, rfl⟩
  rw [hval] at hvf
  rw [hval]
  obtain ⟨row, hrow⟩ : ∃ row, Ln.distF bs n 0 = row := ⟨_, rfl⟩
  have hg0 := Ln.gvK_zero bs n
  have hz : Ln.stK bs n 0 = (Ln.y1 row n, Ln.gvl row n) := by rw [Ln.stK_zero, hrow]
  rw [hrow] at hg0
  have HROW := Lib.hid hrow
  have HMX := Lib.hid hmx
  have HAT := Lib.hid hat
  have HST := Lib.hid hst
  have HVF := Lib.hid hvf
  have HG0 := Lib.hid hg0
  have HZ := Lib.hid hz
  clear hR1 hmx hat hst hvf hval hg0 hz hrow hNN hl hok hR
  go_enter Try.func56, Try.ntmps56
  go_wp2_with fail
  refine HMX.out.mono ?_
  rintro e w2 ⟨G, blk, D, rfl, hM, hA, hG, hb2, hD, hsm⟩
  have k2 := k0.below hb2 k0.lt
  have hB2 := hB0.trans (hb2.mono hB0.size)
  have hbl : ∀ i, i < n → blk i < w2.heap.size := fun i hi => (hM.row i hi).lt
  have hGl := hM.out.lt
  have hsl := k2.lt
  have c0 := k2.cell 0
  simp only [List.getElem?_toArray, List.getElem?_cons_zero] at c0
  have hI := SomI.mk (((k2.alloc (.cells (av (Ln.zerosN n)) 3)).alloc (.cells (bv (Ln.falses n)) 4))) ((hM.alloc (.cells (av (Ln.zerosN n)) 3)).alloc (.cells (bv (Ln.falses n)) 4)) ((Bk.new w2 3 (av (Ln.zerosN n))).alloc (.cells (bv (Ln.falses n)) 4)) (by
    have h := Bk.new (w2.alloc (.cells (av (Ln.zerosN n)) 3)) 4 (bv (Ln.falses n))
    rw [World.size_alloc] at h
    exact h) ((hB2.alloc hB2.size (.cells (av (Ln.zerosN n)) 3)).alloc (by have := hB2.size; simp; omega) (.cells (bv (Ln.falses n)) 4))
  have HBL := Lib.hid hbl
  have HD := Lib.hid hD
  have HSM := Lib.hid hsm
  have HI := Lib.hid hI
  clear hbl hD hsm hI hb2 hB2 hB0 k2 k0 hA hM
  go_wp2_with (first
    | (refine wpList_make_exact _ rfl _ _ 25 rfl 3 i0 _ 1 8 Try.underlying25 hi0 hz0 hz1 hz2 n rfl rfl (by omega) (by omega) (av (Ln.zerosN n)) (by rw [Nat.mul_one]; exact made_ints _) ?_)
    | (refine wpList_make_exact _ rfl _ _ 126 rfl 4 i1 _ 1 1 Try.underlying126 hi1 hy0 hy1 hy2 n rfl rfl (by omega) (by omega) (bv (Ln.falses n)) (by rw [Nat.mul_one]; exact made_flags _) ?_))
  have hI := HI.out
  obtain ⟨gy, hgy⟩ : ∃ gy, w2.heap.size = gy := ⟨_, rfl⟩
  obtain ⟨W, hW⟩ : ∃ W, (w2.alloc (.cells (av (Ln.zerosN n)) 3)).alloc (.cells (bv (Ln.falses n)) 4) = W := ⟨_, rfl⟩
  rw [hW] at hI ⊢
  rw [hgy] at hI hGl hsl ⊢
  have hbl := HBL.out
  rw [hgy] at hbl
  have HBL := Lib.hid hbl
  clear HI hW hgy c0 hbl
  obtain ⟨sb, hsb⟩ : ∃ sb, w.heap.size = sb := ⟨_, rfl⟩
  have HSB := Lib.hid hsb
  rw [hsb] at hI hsl ⊢
  clear hsb
  go_loopw [6] (fun i wr => ∃ k : Nat, k ≤ n ∧ i = .int .i64 k ∧ SomI w wr sb G gy (gy + 1) n A c bs blk D (Ln.y1 row k ++ Ln.zerosN (n - k)) (Ln.f1 row k ++ Ln.falses (n - k)))
    (fun i _ => n - (intOf i).toNat)
  case atStart => exact ⟨0, Nat.zero_le _, rfl, hI⟩
  case round =>
    clear hI
    obtain ⟨k, hk, rfl, hI⟩ := hrel
    have c0 := (hI.sys.cell 0).trans rfl
    have l1 := hI.out.lt
    have l2 := hI.giv.lt
    have l0 := hI.sys.lt
    by_cases hkl : k < n
    · have hk0 : (0 : Int) ≤ (k : Int) := Int.natCast_nonneg _
      have hk1 : (k : Int) < n := by omega
      have hn0 : (0 : Int) < n := by omega
      have o1 := hI.mm.cellO (show 0 < n by omega)
      obtain ⟨v1, v2⟩ := hI.mm.cells (show 0 < n by omega) hkl
      have lG := hI.mm.out.lt
      have la := (hI.mm.row 0 (by omega)).lt
      have hxs := HD.out 0 k (by omega) hkl
      rw [HROW.out] at hxs
      obtain ⟨⟨x, p⟩, hx⟩ : ∃ z, D 0 k = z := ⟨_, rfl⟩
      rw [hx] at v1 v2 hxs
      dsimp only at v1 v2
      have hp1 : p = false → Ln.gt row k = Ln.NONE := fun h => by
        rw [Ln.ffar] at hxs
        split at hxs
        · assumption
        · rw [h] at hxs; simp at hxs
      have hp2 : p = true → Ln.gt row k = x ∧ Ln.gt row k ≠ Ln.NONE := fun h => by
        rw [Ln.ffar] at hxs
        split at hxs
        · rw [h] at hxs; simp at hxs
        · rename_i hne
          simp at hxs
          exact ⟨hxs.1.symm, hne⟩
      have HP1 := Lib.hid hp1
      have HP2 := Lib.hid hp2
      clear hp1 hp2 hx hxs
      rcases p with _ | _
      · have REL := Lib.hid hI
        clear hI
        go_wp2_with fail
        go_roundw
        case rel =>
          have hI := REL.out
          rw [y1_next_none hkl (HP1.out (by simp)), Ln.f1_next_none hkl (HP1.out (by simp))] at hI
          exact ⟨k + 1, by omega, by go_num, hI⟩
        case measure => simp [intOf]; omega
      · have cL := (hI.out.cell k).trans (av_at (by rw [List.length_append, Ln.y1_length, Ln.zerosN_length]; omega))
        have fL := hI.out.frozen k
        have hil : k < (Ln.f1 row k ++ Ln.falses (n - k)).length := by rw [List.length_append, Ln.f1_length]; simp [Ln.falses]; omega
        have cI := (hI.giv.cell k).trans (bv_at hil)
        have fI := hI.giv.frozen k
        have hP := hI.put (by omega) (by omega) (fun a ha => HBL.out a ha) (by rw [HSB.out]; omega) k x
        have REL := Lib.hid hP
        obtain ⟨y0, hy0⟩ : ∃ y0, Ln.gt (Ln.y1 row k ++ Ln.zerosN (n - k)) k = y0 := ⟨_, rfl⟩
        rw [hy0] at cL
        obtain ⟨b0, hb0⟩ : ∃ b0, (Ln.f1 row k ++ Ln.falses (n - k))[k] = b0 := ⟨_, rfl⟩
        rw [hb0] at cI
        clear hI hP hy0 hb0 hil
        go_wp2_with fail
        go_roundw
        case rel =>
          have hI := REL.out
          have hne := (HP2.out (by simp)).2
          rw [← (HP2.out (by simp)).1, y1_next_some hkl hne, Ln.f1_next_some hkl hne] at hI
          refine ⟨k + 1, by omega, by go_num, ?_⟩
          rw [← (HP2.out (by simp)).1]
          exact hI
        case measure => simp [intOf]; omega
    · obtain rfl : k = n := by omega
      rw [Nat.sub_self, show Ln.zerosN 0 = [] from rfl, List.append_nil, show Ln.falses 0 = [] from rfl, List.append_nil, ← HG0.out, show Ln.y1 row k = (Ln.stK bs k 0).1 from by rw [HZ.out]] at hI
      have REL := Lib.hid hI
      clear hI
      go_wp2_with fail
      have hI := REL.out
      clear REL c0 l0 l1 l2
      go_loopw [7] (fun i wr => ∃ j : Nat, j ≤ k ∧ i = .int .i64 j ∧ SomI w wr sb G gy (gy + 1) k A c bs blk D (Ln.stK bs k j).1 (Ln.gvK bs k j))
        (fun i _ => k - (intOf i).toNat)
      case atStart => exact ⟨0, Nat.zero_le _, rfl, hI⟩
      case round =>
        clear hI
        obtain ⟨j, hj, rfl, hI⟩ := hrel
        have c0 := (hI.sys.cell 0).trans rfl
        have l1 := hI.out.lt
        have l2 := hI.giv.lt
        have l0 := hI.sys.lt
        by_cases hjl : j < k
        · have hj0 : (0 : Int) ≤ (j : Int) := Int.natCast_nonneg _
          have hj1 : (j : Int) < k := by omega
          have cI := (hI.giv.cell j).trans (bv_at (by rw [Ln.gvK_length]; exact hjl))
          rw [Ln.gvK_at hjl] at cI
          rcases hg : decide (j ∈ (Ln.stK bs k j).2) with _ | _
          · rw [hg] at cI
            have HNG := Lib.hid (show j ∉ (Ln.stK bs k j).2 by simpa using hg)
            have X0 := Bk.new wr 70 #[.int .i64 0, .bool false]
            have REL := Lib.hid (And.intro (hI.alloc (.cells #[.int .i64 0, .bool false] 70)) X0)
            have hGr := hI.mm.out.lt
            have hbr : ∀ i, i < k → blk i < wr.heap.size := fun i hi => (hI.mm.row i hi).lt
            have HBR := Lib.hid hbr
            have hwr := hI.bl.size
            clear hI hg X0 hbr
            go_wp2_with fail
            obtain ⟨hI, kX⟩ := REL.out
            obtain ⟨X, hX⟩ : ∃ X, wr.heap.size = X := ⟨_, rfl⟩
            have hbr := HBR.out
            rw [hX] at kX l0 l1 l2 hGr hwr hbr ⊢
            have HBR := Lib.hid hbr
            obtain ⟨WX, hWX⟩ : ∃ WX, wr.alloc (.cells #[.int .i64 0, .bool false] 70) = WX := ⟨_, rfl⟩
            rw [hWX] at hI kX ⊢
            clear REL hX hWX c0 cI hbr
            go_loopw [8, 10] (fun v i wq => ∃ (q : Nat) (vv : Int) (hh : Int × Bool), q ≤ k ∧ v = .int .i64 vv ∧ i = .int .i64 q ∧ Ln.VI (Ln.adF bs k) (Ln.stK bs k j).1 (Ln.stK bs k j).2 j q vv hh ∧ (vv ≤ 1000000000000 ∧ -1000000000000 ≤ hh.1 ∧ hh.1 ≤ 1000000000000) ∧
                Bk wq X 70 #[.int .i64 hh.1, .bool hh.2] ∧ SomI w wq sb G gy (gy + 1) k A c bs blk D (Ln.stK bs k j).1 (Ln.gvK bs k j))
              (fun _ i _ => k - (intOf i).toNat)
            case atStart => exact ⟨0, 0, (0, false), Nat.zero_le _, rfl, rfl, Ln.VI.zero _ _ _ _, ⟨by omega, by omega, by omega⟩, kX, hI⟩
            case round =>
              clear hI kX
              obtain ⟨q, vv, hh, hq, rfl, rfl, hV, hbd, kX, hI⟩ := hrel
              have c0 := (hI.sys.cell 0).trans rfl
              have x0 := (kX.cell 0).trans rfl
              have x1 := (kX.cell 1).trans rfl
              have lX := kX.lt
              have lG := hI.mm.out.lt
              have l1' := hI.out.lt
              have l2' := hI.giv.lt
              have l0' := hI.sys.lt
              by_cases hql : q < k
              · have hq0 : (0 : Int) ≤ (q : Int) := Int.natCast_nonneg _
                have hq1 : (q : Int) < k := by omega
                have cQ := (hI.giv.cell q).trans (bv_at (by rw [Ln.gvK_length]; exact hql))
                rw [Ln.gvK_at hql] at cQ
                have cY := (hI.out.cell q).trans (av_at (by rw [Ln.stK_len]; exact hql))
                have oj := hI.mm.cellO hjl
                have oq := hI.mm.cellO hql
                obtain ⟨v1, v2⟩ := hI.mm.cells hjl hql
                obtain ⟨v3, v4⟩ := hI.mm.cells hql hjl
                have laj := (hI.mm.row j hjl).lt
                have laq := (hI.mm.row q hql).lt
                have d1 := HD.out j q hjl hql
                have d2 := HD.out q j hql hjl
                have s1 := HSM.out j q hjl hql
                have s2 := HSM.out q j hql hjl
                have sy := HST.out j (by omega) q
                rw [← HAT.out j q hjl hql] at d1
                rw [← HAT.out q j hql hjl] at d2
                obtain ⟨⟨a1, o1⟩, e1⟩ : ∃ z, D j q = z := ⟨_, rfl⟩
                obtain ⟨⟨a2, o2⟩, e2⟩ : ∃ z, D q j = z := ⟨_, rfl⟩
                rw [e1] at v1 v2 d1 s1
                rw [e2] at v3 v4 d2 s2
                dsimp only at v1 v2 v3 v4 s1 s2
                have hgq : decide (q ∈ (Ln.stK bs k j).2) = true ↔ q ∈ (Ln.stK bs k j).2 := by simp
                have hnx := hV.step d1 d2 _ hgq
                obtain ⟨yq, hyq⟩ : ∃ yq, Ln.gt (Ln.stK bs k j).1 q = yq := ⟨_, rfl⟩
                obtain ⟨gq, hgq2⟩ : ∃ gq, decide (q ∈ (Ln.stK bs k j).2) = gq := ⟨_, rfl⟩
                rw [hyq] at cY hnx sy
                rw [hgq2] at cQ hnx
                obtain ⟨h0, hb⟩ := hh
                dsimp only at x0 x1 hbd kX
                obtain ⟨t1, t2, t3⟩ := hbd
                obtain ⟨s11, s12⟩ := s1
                obtain ⟨s21, s22⟩ := s2
                obtain ⟨sy1, sy2⟩ := sy
                have hvp := hV.pos
                have HNX := Lib.hid hnx
                have HI := Lib.hid hI
                have KX := Lib.hid kX
                clear hnx hI kX hV d1 d2 e1 e2 hyq hgq2 hgq
                rcases gq with _ | _
                · skip
                  go_wp2_with fail
                  go_roundw
                  case rel =>
                    have hnx := HNX.out
                    simp only [Bool.false_eq_true, false_and, if_false] at hnx
                    exact ⟨q + 1, vv, (h0, hb), by omega, rfl, by go_num, hnx, ⟨t1, t2, t3⟩, KX.out, HI.out⟩
                  case measure => simp [intOf]; omega
                · rcases o1 with _ | _
                  · rcases o2 with _ | _
                    · skip
                      go_wp2_with fail
                      go_roundw
                      case rel =>
                        have hnx := HNX.out
                        simp only [Bool.false_eq_true, and_false, if_false] at hnx
                        exact ⟨q + 1, vv, (h0, hb), by omega, rfl, by go_num, hnx, ⟨t1, t2, t3⟩, KX.out, HI.out⟩
                      case measure => simp [intOf]; omega
                    · skip
                      go_upto_region 22 with fail
                      have hSB : ∀ W, Below wr.heap.size wr W → ((W.cell? ⟨G, q, none⟩ = some (.slice (some ⟨blk q, 0, none⟩) k k) ∧ W.cell? ⟨blk q, j * 2, none⟩ = some (.int .i64 a2)) ∧ W.cell? ⟨gy, q, none⟩ = some (.int .i64 yq)) ∧ (W.cell? ⟨X, 0, none⟩ = some (.int .i64 h0) ∧ W.cell? ⟨X, 1, none⟩ = some (.bool hb)) := fun W hbw =>
                        ⟨⟨⟨(hbw.cell (p := ⟨G, q, none⟩) lG).trans oq, (hbw.cell (p := ⟨blk q, j * 2, none⟩) laq).trans v3⟩, (hbw.cell (p := ⟨gy, q, none⟩) l1').trans cY⟩, (hbw.cell (p := ⟨X, 0, none⟩) lX).trans x0, (hbw.cell (p := ⟨X, 1, none⟩) lX).trans x1⟩
                      obtain ⟨u, hu⟩ : ∃ u, Ln.lesserF (h0, hb) (yq + a2, true) = u := ⟨_, rfl⟩
                      have hles := fun w => lesser_any h0 hb (yq + a2) true w
                      have hub : -1000000000000 ≤ u.1 ∧ u.1 ≤ 1000000000000 := by
                        rw [← hu]
                        rcases Ln.lesserF_or (h0, hb) (yq + a2, true) with e | e
                        · rw [e]; exact ⟨t2, t3⟩
                        · rw [e]; dsimp only; omega
                      rw [hu] at hles
                      have hwr : IntKind.i64.wrap (yq + a2) = yq + a2 := IntWalk.i64_in _ (by omega)
                      have HWR := Lib.hid hwr
                      have HUB := Lib.hid hub
                      have HSB2 := Lib.hid hSB
                      have HLES := Lib.hid hles
                      have HU := Lib.hid hu
                      clear hwr hSB hles hu oq oj v1 v2 v3 v4 cY cQ x0 x1 c0 hub
                      refine wp_region_last2 (S := fun W => ((W.cell? ⟨G, q, none⟩ = some (.slice (some ⟨blk q, 0, none⟩) k k) ∧ W.cell? ⟨blk q, j * 2, none⟩ = some (.int .i64 a2)) ∧ W.cell? ⟨gy, q, none⟩ = some (.int .i64 yq)) ∧ (W.cell? ⟨X, 0, none⟩ = some (.int .i64 h0) ∧ W.cell? ⟨X, 1, none⟩ = some (.bool hb))) 16 rfl rfl (by kernel_rfl) (by kernel_rfl) (HSB2.out _ (Below.refl _ wr).drew) (fun hHeld => ?_)
                      simp only [List.take_succ_cons, List.take_zero]
                      refine wpAnyH_take (i := 0) (v := ?_) rfl (by kernel_rfl) (by kernel_rfl) (by kernel_rfl) (fun _ _ _ h => h) (Or.inl ⟨by rfl, ?_⟩) (by assumption) ?_
                      rotate_left
                      · (intro w hSw; (try dsimp only at hSw); go_simp <;> with_reducible rfl)
                      (try simp only [Act.put, List.setIfInBounds_toArray, List.set_cons_zero, List.set_cons_succ])
                      refine wpAnyH_take (i := 1) (v := ?_) rfl (by kernel_rfl) (by kernel_rfl) (by kernel_rfl) (fun _ _ _ h => h) (Or.inl ⟨by rfl, ?_⟩) (by assumption) ?_
                      rotate_left
                      · (intro w hSw; (try dsimp only at hSw); go_simp <;> with_reducible rfl)
                      (try simp only [Act.put, List.setIfInBounds_toArray, List.set_cons_zero, List.set_cons_succ])
                      refine wpAnyH_take (i := 2) (v := ?_) rfl (by kernel_rfl) (by kernel_rfl) (by kernel_rfl) (fun _ _ _ h => h) (Or.inl ⟨by rfl, ?_⟩) (by assumption) ?_
                      rotate_left
                      · (intro w hSw; (try dsimp only at hSw); go_simp <;> with_reducible rfl)
                      (try simp only [Act.put, List.setIfInBounds_toArray, List.set_cons_zero, List.set_cons_succ])
                      refine wpAnyH_take (i := 3) (v := ?_) rfl (by kernel_rfl) (by kernel_rfl) (by kernel_rfl) (fun _ _ _ h => h) (Or.inl ⟨by rfl, ?_⟩) (by assumption) ?_
                      rotate_left
                      · (intro w hSw; (try dsimp only at hSw); go_simp <;> with_reducible rfl)
                      (try simp only [Act.put, List.setIfInBounds_toArray, List.set_cons_zero, List.set_cons_succ])
                      refine wpAnyH_take (i := 4) (v := ?_) rfl (by kernel_rfl) (by kernel_rfl) (by kernel_rfl) (fun _ _ _ h => h) (Or.inl ⟨by rfl, ?_⟩) (by assumption) ?_
                      rotate_left
                      · (intro w hSw; (try dsimp only at hSw); go_simp <;> with_reducible rfl)
                      (try simp only [Act.put, List.setIfInBounds_toArray, List.set_cons_zero, List.set_cons_succ])
                      refine wpAnyH_take (i := 5) (v := ?_) rfl (by kernel_rfl) (by kernel_rfl) (by kernel_rfl) (fun _ _ _ h => h) (Or.inl ⟨by rfl, ?_⟩) (by assumption) ?_
                      rotate_left
                      · (intro w hSw; (try dsimp only at hSw); go_simp <;> with_reducible rfl)
                      (try simp only [Act.put, List.setIfInBounds_toArray, List.set_cons_zero, List.set_cons_succ])
                      refine wpAnyH_take (i := 6) (v := ?_) rfl (by kernel_rfl) (by kernel_rfl) (by kernel_rfl) (fun _ _ _ h => h) (Or.inl ⟨by rfl, ?_⟩) (by assumption) ?_
                      rotate_left
                      · (intro w hSw; (try dsimp only at hSw); go_simp <;> with_reducible rfl)
                      (try simp only [Act.put, List.setIfInBounds_toArray, List.set_cons_zero, List.set_cons_succ])
                      refine wpAnyH_take (i := 7) (v := ?_) rfl (by kernel_rfl) (by kernel_rfl) (by kernel_rfl) (fun _ _ _ h => h) (Or.inl ⟨by rfl, ?_⟩) (by assumption) ?_
                      rotate_left
                      · (intro w hSw; (try dsimp only at hSw); go_simp <;> with_reducible rfl)
                      (try simp only [Act.put, List.setIfInBounds_toArray, List.set_cons_zero, List.set_cons_succ])
                      refine wpAnyH_take (i := 8) (v := ?_) rfl (by kernel_rfl) (by kernel_rfl) (by kernel_rfl) (fun _ _ _ h => h) (Or.inl ⟨by rfl, ?_⟩) (by assumption) ?_
                      rotate_left
                      · (intro w hSw; (try dsimp only at hSw); go_simp <;> with_reducible rfl)
                      (try simp only [Act.put, List.setIfInBounds_toArray, List.set_cons_zero, List.set_cons_succ])
                      refine wpAnyH_take (i := 9) (v := ?_) rfl (by kernel_rfl) (by kernel_rfl) (by kernel_rfl) (fun _ _ _ h => h) (Or.inl ⟨by rfl, ?_⟩) (by assumption) ?_
                      rotate_left
                      · (intro w hSw; (try dsimp only at hSw); go_simp <;> with_reducible rfl)
                      (try simp only [Act.put, List.setIfInBounds_toArray, List.set_cons_zero, List.set_cons_succ])
                      refine wpAnyH_take (i := 10) (v := ?_) rfl (by kernel_rfl) (by kernel_rfl) (by kernel_rfl) (fun _ _ _ h => h) (Or.inl ⟨by rfl, ?_⟩) (by assumption) ?_
                      rotate_left
                      · (intro w hSw; (try dsimp only at hSw); go_simp <;> with_reducible rfl)
                      (try simp only [Act.put, List.setIfInBounds_toArray, List.set_cons_zero, List.set_cons_succ])
                      refine wpAnyH_take (i := 11) (v := ?_) rfl (by kernel_rfl) (by kernel_rfl) (by kernel_rfl) (fun _ _ _ h => h) (Or.inl ⟨by rfl, ?_⟩) (by assumption) ?_
                      rotate_left
                      · (intro w hSw; (try dsimp only at hSw); go_simp <;> with_reducible rfl)
                      (try simp only [Act.put, List.setIfInBounds_toArray, List.set_cons_zero, List.set_cons_succ])
                      refine wpAnyH_take (i := 12) (v := ?_) rfl (by kernel_rfl) (by kernel_rfl) (by kernel_rfl) (fun _ _ _ h => h) (Or.inl ⟨by rfl, ?_⟩) (by assumption) ?_
                      rotate_left
                      · (intro w hSw; (try dsimp only at hSw); go_simp <;> with_reducible rfl)
                      (try simp only [Act.put, List.setIfInBounds_toArray, List.set_cons_zero, List.set_cons_succ])
                      refine wpAnyH_take (i := 13) (v := ?_) rfl (by kernel_rfl) (by kernel_rfl) (by kernel_rfl) (fun _ _ _ h => h) (Or.inl ⟨by rfl, ?_⟩) (by assumption) ?_
                      rotate_left
                      · (intro w hSw; (try dsimp only at hSw); go_simp <;> with_reducible rfl)
                      (try simp only [Act.put, List.setIfInBounds_toArray, List.set_cons_zero, List.set_cons_succ])
                      refine wpAnyH_take (i := 14) (v := ?_) rfl (by kernel_rfl) (by kernel_rfl) (by kernel_rfl) (fun _ _ _ h => h) (Or.inl ⟨by rfl, ?_⟩) (by assumption) ?_
                      rotate_left
                      · (intro w hSw; (try dsimp only at hSw); go_simp <;> with_reducible rfl)
                      (try simp only [Act.put, List.setIfInBounds_toArray, List.set_cons_zero, List.set_cons_succ])
                      refine wpAnyH_ready (rs := [15]) (by kernel_rfl) (by simp) ?_
                      refine AllReadyH.cons rfl (fun K hK => ?_) AllReadyH.nil
                      go_simp
                      rw [HWR.out]
                      (go_at_call 69; refine (HLES.out _).mono ?_; rintro e w3 ⟨rfl, hb3⟩; have hbC : Below wr.heap.size wr w3 := (Below.refl _ wr).drew.trans hb3; have m3 := KX.out.below hbC lX; have f0 := m3.frozen 0; have f1 := m3.frozen 1; have e0 := (m3.cell 0).trans rfl; have e1 := (m3.cell 1).trans rfl; clear m3)
                      (try go_wp2_with fail)
                      refine hK.out _ _ (HSB2.out _ hbC) (fun hHeld => ?_)
                      clear hK
                      (try simp only [Act.put, List.setIfInBounds_toArray, List.set_cons_zero, List.set_cons_succ])
                      refine wpAnyH_done (by kernel_rfl) ?_ _
                      simp only [QLast]
                      go_wp2_with fail
                      go_roundw
                      case rel =>
                        have hnx := HNX.out
                        have hI9 := (HI.out.below hbC)
                        have kX9 := ((KX.out.below hbC lX).set 0 (.int .i64 u.1)).set 1 (.bool u.2)
                        simp only [and_true, Bool.false_eq_true, and_false, if_false, if_true, HU.out] at hnx
                        have hwX : w.heap.size ≤ X := by rw [HSB.out]; omega
                        exact ⟨q + 1, vv, u, by omega, rfl, by go_num, hnx, ⟨by omega, HUB.out.1, HUB.out.2⟩, kX9, (hI9.far (by simp; omega) (by simp; omega) (fun a ha => by have := HBR.out a ha; simp; omega) (by simp; omega) (by simp; omega) hwX _).far (by simp; omega) (by simp; omega) (fun a ha => by have := HBR.out a ha; simp; omega) (by simp; omega) (by simp; omega) hwX _⟩
                      case measure => simp [intOf]; omega
                  · skip
                    go_upto_region 20 with fail
                    refine wp_region_still_tail 14 (by kernel_rfl) (by kernel_rfl) ?_
                    simp only [List.take_succ_cons, List.take_zero, List.drop_succ_cons, List.drop_zero]
                    repeat still_step
                    try refine wpStill_nil ?_
                    rcases o2 with _ | _
                    · go_wp2_with fail
                      go_roundw
                      case rel =>
                        have hnx := HNX.out
                        simp only [Bool.false_eq_true, and_false, and_true, if_false, if_true] at hnx
                        rw [max_if] at hnx
                        exact ⟨q + 1, _, (h0, hb), by omega, rfl, by go_num, hnx, ⟨by split <;> omega, t2, t3⟩, KX.out, HI.out.drewN 1⟩
                      case measure => simp [intOf]; omega
                    · skip
                      go_upto_region 22 with fail
                      obtain ⟨z, hzz⟩ : ∃ z, (if vv < yq - a1 then yq - a1 else vv) = z := ⟨_, rfl⟩
                      rw [hzz]
                      have HZZ := Lib.hid hzz
                      have hzb : z ≤ 1000000000000 := by rw [← hzz]; split <;> omega
                      clear hzz
                      have hSB : ∀ W, Below wr.heap.size wr W → ((W.cell? ⟨G, q, none⟩ = some (.slice (some ⟨blk q, 0, none⟩) k k) ∧ W.cell? ⟨blk q, j * 2, none⟩ = some (.int .i64 a2)) ∧ W.cell? ⟨gy, q, none⟩ = some (.int .i64 yq)) ∧ (W.cell? ⟨X, 0, none⟩ = some (.int .i64 h0) ∧ W.cell? ⟨X, 1, none⟩ = some (.bool hb)) := fun W hbw =>
                        ⟨⟨⟨(hbw.cell (p := ⟨G, q, none⟩) lG).trans oq, (hbw.cell (p := ⟨blk q, j * 2, none⟩) laq).trans v3⟩, (hbw.cell (p := ⟨gy, q, none⟩) l1').trans cY⟩, (hbw.cell (p := ⟨X, 0, none⟩) lX).trans x0, (hbw.cell (p := ⟨X, 1, none⟩) lX).trans x1⟩
                      obtain ⟨u, hu⟩ : ∃ u, Ln.lesserF (h0, hb) (yq + a2, true) = u := ⟨_, rfl⟩
                      have hles := fun w => lesser_any h0 hb (yq + a2) true w
                      have hub : -1000000000000 ≤ u.1 ∧ u.1 ≤ 1000000000000 := by
                        rw [← hu]
                        rcases Ln.lesserF_or (h0, hb) (yq + a2, true) with e | e
                        · rw [e]; exact ⟨t2, t3⟩
                        · rw [e]; dsimp only; omega
                      rw [hu] at hles
                      have hwr : IntKind.i64.wrap (yq + a2) = yq + a2 := IntWalk.i64_in _ (by omega)
                      have HWR := Lib.hid hwr
                      have HUB := Lib.hid hub
                      have HSB2 := Lib.hid hSB
                      have HLES := Lib.hid hles
                      have HU := Lib.hid hu
                      clear hwr hSB hles hu oq oj v1 v2 v3 v4 cY cQ x0 x1 c0 hub
                      refine wp_region_last2 (S := fun W => ((W.cell? ⟨G, q, none⟩ = some (.slice (some ⟨blk q, 0, none⟩) k k) ∧ W.cell? ⟨blk q, j * 2, none⟩ = some (.int .i64 a2)) ∧ W.cell? ⟨gy, q, none⟩ = some (.int .i64 yq)) ∧ (W.cell? ⟨X, 0, none⟩ = some (.int .i64 h0) ∧ W.cell? ⟨X, 1, none⟩ = some (.bool hb))) 16 rfl rfl (by kernel_rfl) (by kernel_rfl) (HSB2.out _ (Below.refl _ wr).drew.drew) (fun hHeld => ?_)
                      simp only [List.take_succ_cons, List.take_zero]
                      refine wpAnyH_take (i := 0) (v := ?_) rfl (by kernel_rfl) (by kernel_rfl) (by kernel_rfl) (fun _ _ _ h => h) (Or.inl ⟨by rfl, ?_⟩) (by assumption) ?_
                      rotate_left
                      · (intro w hSw; (try dsimp only at hSw); go_simp <;> with_reducible rfl)
                      (try simp only [Act.put, List.setIfInBounds_toArray, List.set_cons_zero, List.set_cons_succ])
                      refine wpAnyH_take (i := 1) (v := ?_) rfl (by kernel_rfl) (by kernel_rfl) (by kernel_rfl) (fun _ _ _ h => h) (Or.inl ⟨by rfl, ?_⟩) (by assumption) ?_
                      rotate_left
                      · (intro w hSw; (try dsimp only at hSw); go_simp <;> with_reducible rfl)
                      (try simp only [Act.put, List.setIfInBounds_toArray, List.set_cons_zero, List.set_cons_succ])
                      refine wpAnyH_take (i := 2) (v := ?_) rfl (by kernel_rfl) (by kernel_rfl) (by kernel_rfl) (fun _ _ _ h => h) (Or.inl ⟨by rfl, ?_⟩) (by assumption) ?_
                      rotate_left
                      · (intro w hSw; (try dsimp only at hSw); go_simp <;> with_reducible rfl)
                      (try simp only [Act.put, List.setIfInBounds_toArray, List.set_cons_zero, List.set_cons_succ])
                      refine wpAnyH_take (i := 3) (v := ?_) rfl (by kernel_rfl) (by kernel_rfl) (by kernel_rfl) (fun _ _ _ h => h) (Or.inl ⟨by rfl, ?_⟩) (by assumption) ?_
                      rotate_left
                      · (intro w hSw; (try dsimp only at hSw); go_simp <;> with_reducible rfl)
                      (try simp only [Act.put, List.setIfInBounds_toArray, List.set_cons_zero, List.set_cons_succ])
                      refine wpAnyH_take (i := 4) (v := ?_) rfl (by kernel_rfl) (by kernel_rfl) (by kernel_rfl) (fun _ _ _ h => h) (Or.inl ⟨by rfl, ?_⟩) (by assumption) ?_
                      rotate_left
                      · (intro w hSw; (try dsimp only at hSw); go_simp <;> with_reducible rfl)
                      (try simp only [Act.put, List.setIfInBounds_toArray, List.set_cons_zero, List.set_cons_succ])
                      refine wpAnyH_take (i := 5) (v := ?_) rfl (by kernel_rfl) (by kernel_rfl) (by kernel_rfl) (fun _ _ _ h => h) (Or.inl ⟨by rfl, ?_⟩) (by assumption) ?_
                      rotate_left
                      · (intro w hSw; (try dsimp only at hSw); go_simp <;> with_reducible rfl)
                      (try simp only [Act.put, List.setIfInBounds_toArray, List.set_cons_zero, List.set_cons_succ])
                      refine wpAnyH_take (i := 6) (v := ?_) rfl (by kernel_rfl) (by kernel_rfl) (by kernel_rfl) (fun _ _ _ h => h) (Or.inl ⟨by rfl, ?_⟩) (by assumption) ?_
                      rotate_left
                      · (intro w hSw; (try dsimp only at hSw); go_simp <;> with_reducible rfl)
                      (try simp only [Act.put, List.setIfInBounds_toArray, List.set_cons_zero, List.set_cons_succ])
                      refine wpAnyH_take (i := 7) (v := ?_) rfl (by kernel_rfl) (by kernel_rfl) (by kernel_rfl) (fun _ _ _ h => h) (Or.inl ⟨by rfl, ?_⟩) (by assumption) ?_
                      rotate_left
                      · (intro w hSw; (try dsimp only at hSw); go_simp <;> with_reducible rfl)
                      (try simp only [Act.put, List.setIfInBounds_toArray, List.set_cons_zero, List.set_cons_succ])
                      refine wpAnyH_take (i := 8) (v := ?_) rfl (by kernel_rfl) (by kernel_rfl) (by kernel_rfl) (fun _ _ _ h => h) (Or.inl ⟨by rfl, ?_⟩) (by assumption) ?_
                      rotate_left
                      · (intro w hSw; (try dsimp only at hSw); go_simp <;> with_reducible rfl)
                      (try simp only [Act.put, List.setIfInBounds_toArray, List.set_cons_zero, List.set_cons_succ])
                      refine wpAnyH_take (i := 9) (v := ?_) rfl (by kernel_rfl) (by kernel_rfl) (by kernel_rfl) (fun _ _ _ h => h) (Or.inl ⟨by rfl, ?_⟩) (by assumption) ?_
                      rotate_left
                      · (intro w hSw; (try dsimp only at hSw); go_simp <;> with_reducible rfl)
                      (try simp only [Act.put, List.setIfInBounds_toArray, List.set_cons_zero, List.set_cons_succ])
                      refine wpAnyH_take (i := 10) (v := ?_) rfl (by kernel_rfl) (by kernel_rfl) (by kernel_rfl) (fun _ _ _ h => h) (Or.inl ⟨by rfl, ?_⟩) (by assumption) ?_
                      rotate_left
                      · (intro w hSw; (try dsimp only at hSw); go_simp <;> with_reducible rfl)
                      (try simp only [Act.put, List.setIfInBounds_toArray, List.set_cons_zero, List.set_cons_succ])
                      refine wpAnyH_take (i := 11) (v := ?_) rfl (by kernel_rfl) (by kernel_rfl) (by kernel_rfl) (fun _ _ _ h => h) (Or.inl ⟨by rfl, ?_⟩) (by assumption) ?_
                      rotate_left
                      · (intro w hSw; (try dsimp only at hSw); go_simp <;> with_reducible rfl)
                      (try simp only [Act.put, List.setIfInBounds_toArray, List.set_cons_zero, List.set_cons_succ])
                      refine wpAnyH_take (i := 12) (v := ?_) rfl (by kernel_rfl) (by kernel_rfl) (by kernel_rfl) (fun _ _ _ h => h) (Or.inl ⟨by rfl, ?_⟩) (by assumption) ?_
                      rotate_left
                      · (intro w hSw; (try dsimp only at hSw); go_simp <;> with_reducible rfl)
                      (try simp only [Act.put, List.setIfInBounds_toArray, List.set_cons_zero, List.set_cons_succ])
                      refine wpAnyH_take (i := 13) (v := ?_) rfl (by kernel_rfl) (by kernel_rfl) (by kernel_rfl) (fun _ _ _ h => h) (Or.inl ⟨by rfl, ?_⟩) (by assumption) ?_
                      rotate_left
                      · (intro w hSw; (try dsimp only at hSw); go_simp <;> with_reducible rfl)
                      (try simp only [Act.put, List.setIfInBounds_toArray, List.set_cons_zero, List.set_cons_succ])
                      refine wpAnyH_take (i := 14) (v := ?_) rfl (by kernel_rfl) (by kernel_rfl) (by kernel_rfl) (fun _ _ _ h => h) (Or.inl ⟨by rfl, ?_⟩) (by assumption) ?_
                      rotate_left
                      · (intro w hSw; (try dsimp only at hSw); go_simp <;> with_reducible rfl)
                      (try simp only [Act.put, List.setIfInBounds_toArray, List.set_cons_zero, List.set_cons_succ])
                      refine wpAnyH_ready (rs := [15]) (by kernel_rfl) (by simp) ?_
                      refine AllReadyH.cons rfl (fun K hK => ?_) AllReadyH.nil
                      go_simp
                      rw [HWR.out]
                      (go_at_call 69; refine (HLES.out _).mono ?_; rintro e w3 ⟨rfl, hb3⟩; have hbC : Below wr.heap.size wr w3 := (Below.refl _ wr).drew.drew.trans hb3; have m3 := KX.out.below hbC lX; have f0 := m3.frozen 0; have f1 := m3.frozen 1; have e0 := (m3.cell 0).trans rfl; have e1 := (m3.cell 1).trans rfl; clear m3)
                      (try go_wp2_with fail)
                      refine hK.out _ _ (HSB2.out _ hbC) (fun hHeld => ?_)
                      clear hK
                      (try simp only [Act.put, List.setIfInBounds_toArray, List.set_cons_zero, List.set_cons_succ])
                      refine wpAnyH_done (by kernel_rfl) ?_ _
                      simp only [QLast]
                      go_wp2_with fail
                      go_roundw
                      case rel =>
                        have hnx := HNX.out
                        have hI9 := (HI.out.below hbC)
                        have kX9 := ((KX.out.below hbC lX).set 0 (.int .i64 u.1)).set 1 (.bool u.2)
                        simp only [and_true, if_true, HU.out] at hnx
                        rw [max_if, HZZ.out] at hnx
                        have hwX : w.heap.size ≤ X := by rw [HSB.out]; omega
                        exact ⟨q + 1, z, u, by omega, rfl, by go_num, hnx, ⟨by omega, HUB.out.1, HUB.out.2⟩, kX9, (hI9.far (by simp; omega) (by simp; omega) (fun a ha => by have := HBR.out a ha; simp; omega) (by simp; omega) (by simp; omega) hwX _).far (by simp; omega) (by simp; omega) (fun a ha => by have := HBR.out a ha; simp; omega) (by simp; omega) (by simp; omega) hwX _⟩
                      case measure => simp [intOf]; omega
              · obtain rfl : q = k := by omega
                have hfin := hV.fin (fun g hg => Ln.stK_lt (by omega) hg)
                have hstp := Ln.stK_step hjl HNG.out
                have hgst := Ln.gvK_step (bs := bs) hjl
                obtain ⟨h0, hb⟩ := hh
                dsimp only at hfin x0 x1 hbd kX
                obtain ⟨t1, t2, t3⟩ := hbd
                have hvp := hV.pos
                have cL := (hI.out.cell j).trans (av_at (by rw [Ln.stK_len]; exact hjl))
                have fL := hI.out.frozen j
                have cI := (hI.giv.cell j).trans (bv_at (by rw [Ln.gvK_length]; exact hjl))
                have fI := hI.giv.frozen j
                obtain ⟨z1, hz1⟩ : ∃ z, Ln.gt (Ln.stK bs q j).1 j = z := ⟨_, rfl⟩
                rw [hz1] at cL
                obtain ⟨z2, hz2⟩ : ∃ z, (Ln.gvK bs q j)[j]'(by rw [Ln.gvK_length]; exact hjl) = z := ⟨_, rfl⟩
                rw [hz2] at cI
                have HFIN := Lib.hid hfin
                have HSTP := Lib.hid hstp
                have HGST := Lib.hid hgst
                have HI := Lib.hid hI
                clear hfin hstp hgst hI hV hz1 hz2 kX
                rcases hb with _ | _
                · go_wp2_with fail
                  go_roundw
                  case rel =>
                    have hI9 := HI.out.put (by omega) (by omega) (fun a ha => HBL.out a ha) (by rw [HSB.out]; omega) j vv
                    refine ⟨j + 1, by omega, by go_num, ?_⟩
                    have hf := HFIN.out
                    simp only [Bool.false_eq_true, if_false] at hf
                    rw [HSTP.out, HGST.out, Ln.valS, ← hf]
                    exact hI9
                  case measure => simp [intOf]; omega
                · go_wp2_with fail
                  go_roundw
                  case rel =>
                    have hI9 := HI.out.put (by omega) (by omega) (fun a ha => HBL.out a ha) (by rw [HSB.out]; omega) j (min vv h0)
                    refine ⟨j + 1, by omega, by go_num, ?_⟩
                    have hf := HFIN.out
                    simp only [if_true] at hf
                    have hmn : min vv h0 = if h0 < vv then h0 else vv := by rw [Int.min_def]; split <;> split <;> omega
                    rw [HSTP.out, HGST.out, Ln.valS, ← hf, hmn]
                    rw [hmn] at hI9
                    exact hI9
                  case measure => simp [intOf]; omega
          · rw [hg] at cI
            have HNG := Lib.hid (show j ∈ (Ln.stK bs k j).2 by simpa using hg)
            have REL := Lib.hid hI
            clear hI hg
            go_wp2_with fail
            go_roundw
            case rel =>
              have hI := REL.out
              rw [← Ln.gvK_skip hjl HNG.out, ← Ln.stK_skip hjl HNG.out] at hI
              exact ⟨j + 1, by omega, by go_num, hI⟩
            case measure => simp [intOf]; omega
        · obtain rfl : j = k := by omega
          rw [← HVF.out] at hI
          have REL := Lib.hid hI
          clear hI
          go_wp2_with fail
          go_ret
          exact ⟨gy, rfl, by rw [HSB.out]; omega, REL.out.out, REL.out.bl⟩

end Go.Proofs.Yteiaofgkmgllcaa
