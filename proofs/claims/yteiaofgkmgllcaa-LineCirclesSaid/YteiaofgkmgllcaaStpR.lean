/-
  The reference's steps: rows of the least sums of paths with so many bounds.
-/
import Derived.Test.YteiaofgkmgllcaaCirM
import Derived.Test.YteiaofgkmgllcaaDsR
import Derived.Test.YteiaofgkmgllcaaSome
set_option linter.unusedVariables false
set_option linter.unusedSimpArgs false
namespace Go.Proofs.Yteiaofgkmgllcaa
open Go.RowKit Go.Shelf

/-- Rows while they are laid: the outer list at G, with room for M; k of them, each of N; row a at blk a. -/
structure SP (w : World) (G M N k : Nat) (blk : Nat → Nat) (C : Nat → Nat → Int × Bool) : Prop where
  out : Bk w G 71 (oc M (fun a => if a < k then .slice (some ⟨blk a, 0, none⟩) N N else .slice none 0 0))
  row : ∀ a, a < k → Bk w (blk a) 70 (fc N (C a))
  inj : ∀ a b, a < k → b < k → blk a = blk b → a = b
  gt : ∀ a, a < k → G < blk a
section
variable {w w' : World} {G M N k : Nat} {blk : Nat → Nat} {C C' : Nat → Nat → Int × Bool}
theorem SP.cellO (h : SP w G M N k blk C) {a : Nat} (ha : a < k) (hM : a < M) : w.cell? ⟨G, a, none⟩ = some (.slice (some ⟨blk a, 0, none⟩) N N) := by
  have := (h.out.cell a).trans (oc_at _ hM)
  rw [if_pos ha] at this
  exact this
theorem SP.cells (h : SP w G M N k blk C) {a b : Nat} (ha : a < k) (hb : b < N) : w.cell? ⟨blk a, b * 2, none⟩ = some (.int .i64 (C a b).1) ∧ w.cell? ⟨blk a, b * 2 + 1, none⟩ = some (.bool (C a b).2) :=
  ⟨((h.row a ha).cell _).trans (fc_at _ hb).1, ((h.row a ha).cell _).trans (fc_at _ hb).2⟩
theorem SP.below (h : SP w G M N k blk C) (hb : Below w.heap.size w w') : SP w' G M N k blk C :=
  ⟨h.out.below hb h.out.lt, fun a ha => (h.row a ha).below hb (h.row a ha).lt, h.inj, h.gt⟩
theorem SP.alloc (h : SP w G M N k blk C) (o : Obj) : SP (w.alloc o) G M N k blk C := h.below ((Below.refl _ _).alloc (Nat.le_refl _) _)
theorem SP.congr (h : SP w G M N k blk C) (he : ∀ a, a < k → C a = C' a) : SP w G M N k blk C' := ⟨h.out, fun a ha => by rw [← he a ha]; exact h.row a ha, h.inj, h.gt⟩
theorem SP.set (h : SP w G M N k blk C) {a b : Nat} (ha : a < k) (hb : b < N) (x : Int) (q : Bool) :
    SP ((w.setCell ⟨blk a, b * 2, none⟩ (.int .i64 x)).setCell ⟨blk a, b * 2 + 1, none⟩ (.bool q)) G M N k blk (fun i => if i = a then (fun j => if j = b then (x, q) else C a j) else C i) := by
  have hG := h.gt a ha
  refine ⟨(h.out.far (by show G ≠ blk a; omega) _).far (by show G ≠ blk a; omega) _, fun i hi => ?_, h.inj, h.gt⟩
  by_cases e : i = a
  · subst e
    have := ((h.row i hi).set (b * 2) (.int .i64 x)).set (b * 2 + 1) (.bool q)
    rw [fc_set _ hb] at this
    rw [if_pos rfl]
    exact this
  · have hne : blk i ≠ blk a := fun e2 => e (h.inj _ _ hi ha e2)
    rw [if_neg e]
    exact ((h.row i hi).far hne _).far hne _
theorem SP.add (h : SP w G M N k blk C) (hk : k < M) :
    SP ((w.setCell ⟨G, k, none⟩ (.slice (some ⟨w.heap.size, 0, none⟩) N N)).alloc (.cells (fc N (fun _ => Ln.fr0)) 70)) G M N (k + 1) (fun a => if a = k then w.heap.size else blk a) (fun a => if a = k then (fun _ => Ln.fr0) else C a) := by
  have hGl := h.out.lt
  have hsz := size_setCell w ⟨G, k, none⟩ (.slice (some ⟨w.heap.size, 0, none⟩) N N)
  refine ⟨?_, fun a ha => ?_, fun a b ha hb e => ?_, fun a ha => ?_⟩
  · have := (h.out.set k (.slice (some ⟨w.heap.size, 0, none⟩) N N)).alloc (.cells (fc N (fun _ => Ln.fr0)) 70)
    rw [oc_set] at this
    have he : (fun i => if i = k then Value.slice (some ⟨w.heap.size, 0, none⟩) N N else (if i < k then .slice (some ⟨blk i, 0, none⟩) N N else .slice none 0 0)) = (fun a => if a < k + 1 then Value.slice (some ⟨if a = k then w.heap.size else blk a, 0, none⟩) N N else .slice none 0 0) := by
      funext i
      by_cases e : i = k
      · subst e
        simp
      · by_cases h2 : i < k
        · simp [e, h2, show i < k + 1 by omega]
        · simp [e, h2, show ¬ i < k + 1 by omega]
    rw [he] at this
    exact this
  · by_cases e : a = k
    · subst e
      rw [if_pos rfl, if_pos rfl]
      have := Bk.new (w.setCell ⟨G, a, none⟩ (.slice (some ⟨w.heap.size, 0, none⟩) N N)) 70 (fc N (fun _ => Ln.fr0))
      rw [hsz] at this
      exact this
    · rw [if_neg e, if_neg e]
      have hlt := h.gt a (by omega)
      exact ((h.row a (by omega)).far (by simp; omega) _).alloc _
  · by_cases e1 : a = k <;> by_cases e2 : b = k
    · omega
    · rw [if_pos e1, if_neg e2] at e
      have := (h.row b (by omega)).lt
      omega
    · rw [if_neg e1, if_pos e2] at e
      have := (h.row a (by omega)).lt
      omega
    · rw [if_neg e1, if_neg e2] at e
      exact h.inj a b (by omega) (by omega) e
  · by_cases e : a = k
    · rw [if_pos e]; exact hGl
    · rw [if_neg e]; exact h.gt a (by omega)
end
theorem SP.start {w : World} {G M N : Nat} (h : Bk w G 71 (oc M (fun _ => .slice none 0 0))) (blk : Nat → Nat) (C : Nat → Nat → Int × Bool) : SP w G M N 0 blk C :=
  ⟨by simpa using h, fun a ha => absurd ha (by omega), fun a b ha => absurd ha (by omega), fun a ha => absurd ha (by omega)⟩

set_option maxRecDepth 100000 in
set_option maxHeartbeats 8000000 in
theorem rsteps_any {N : Nat} {bs : List Ln.Bd} (hok : Ln.Ok N bs) (hl : ∀ b ∈ bs, b.gone = false) (h14 : N ≤ 14) (A : Option Addr) (c : Nat) (b m n0 : Nat) (hb : b < N) (hm : m ≤ 14) (lv : Int) (hlv : lv + 1 = (n0 : Int)) (hn0 : n0 ≤ bs.length) (w : World) (hR : Rd w w.heap.size 4 A bs.length (bcells bs)) :
    Calls Try.prog 39 #[.agg #[.int .i64 (N : Int), .slice A bs.length c], .int .i64 (b : Int), .int .i64 (m : Int), .int .i64 lv] w fun e w' => ∃ G blk, e = .returned (.slice (some ⟨G, 0, none⟩) (m + 1) (m + 1)) ∧ SP w' G (m + 1) N (m + 1) blk (Ln.rowG bs n0 b) ∧ Below w.heap.size w w' := by
  obtain ⟨i1, hi1, hy0, hy1, hy2⟩ := info_parts infoR
  obtain ⟨i2, hi2, hx0, hx1, hx2⟩ := info_parts infoF
  have hpos := hok.pos
  have hlen := hok.len
  have hB0 : Below w.heap.size w ((w.alloc (.cells #[.int .i64 (N : Int), .slice A bs.length c] 24)).alloc (.cells (oc (m + 1) (fun _ => .slice none 0 0)) 71)) := ((Below.refl _ _).alloc (Nat.le_refl _) _).alloc (by simp) _
  have k0 := (Bk.new w 24 #[.int .i64 (N : Int), .slice A bs.length c]).alloc (.cells (oc (m + 1) (fun _ => .slice none 0 0)) 71)
  have kG := Bk.new (w.alloc (.cells #[.int .i64 (N : Int), .slice A bs.length c] 24)) 71 (oc (m + 1) (fun _ => .slice none 0 0))
  rw [World.size_alloc] at kG
  have hsum := fun k v => Ln.rowG_small hok n0 b k v
  have hsum2 := fun k (i : Nat) (hi : i ≤ bs.length) v => Ln.stR_small hok (n := n0) (R := Ln.rowG bs n0 b k) (K := 1000000 * (k : Int)) (by omega) (fun v => hsum k v) i hi v
  have heach := fun (i : Nat) (hi : i < bs.length) => hok.each _ (Ln.bd_mem hi)
  have hstep := fun k (i : Nat) (hi : n0 ≤ i) => Ln.stR_succ (bs := bs) (R := Ln.rowG bs n0 b k) (n := n0) (j := i) hi
  have hstart := fun k => Ln.stR_start (bs := bs) (R := Ln.rowG bs n0 b k) (n := n0) (j := n0) (Nat.le_refl _)
  have HSUM := Lib.hid hsum
  have HSUM2 := Lib.hid hsum2
  have HEACH := Lib.hid heach
  have HSTEP := Lib.hid hstep
  have HSTART := Lib.hid hstart
  have REL := Lib.hid (And.intro k0 (And.intro kG hB0))
  clear hsum hsum2 heach hstep hstart k0 kG hB0 hok
  go_enter Try.func39, Try.ntmps39
  go_wp2_with (refine wpList_make_exact _ rfl _ _ 67 rfl 71 i1 _ 1 24 Try.underlying67 hi1 hy0 hy1 hy2 (m + 1) rfl rfl (by omega) (by omega) (oc (m + 1) (fun _ => .slice none 0 0)) (oc_made _) ?_)
  obtain ⟨k1, kG, hB⟩ := REL.out
  obtain ⟨W, hW⟩ : ∃ W, (w.alloc (.cells #[.int .i64 (N : Int), .slice A bs.length c] 24)).alloc (.cells (oc (m + 1) (fun _ => .slice none 0 0)) 71) = W := ⟨_, rfl⟩
  obtain ⟨sb, hsb⟩ : ∃ sb, w.heap.size = sb := ⟨_, rfl⟩
  rw [hW] at k1 kG hB ⊢
  have HSB := Lib.hid hsb
  have hRs : Rd w sb 4 A bs.length (bcells bs) := by rw [← hsb]; exact hR
  rw [hsb] at k1 kG hB ⊢
  clear REL hW hsb hR
  obtain ⟨G, hG⟩ : ∃ G, sb + 1 = G := ⟨_, rfl⟩
  rw [hG] at kG ⊢
  go_loopw [10] (fun i wr => ∃ (k : Nat) (blk : Nat → Nat), k ≤ m + 1 ∧ i = .int .i64 k ∧ SP wr G (m + 1) N k blk (Ln.rowG bs n0 b) ∧ Bk wr sb 24 #[.int .i64 (N : Int), .slice A bs.length c] ∧ Below sb w wr)
    (fun i _ => m + 1 - (intOf i).toNat)
  case atStart => exact ⟨0, fun _ => 0, Nat.zero_le _, rfl, SP.start kG _ _, k1, hB⟩
  case round =>
    clear kG k1 hB
    obtain ⟨k, blk, hk, rfl, hP, k1, hB⟩ := hrel
    have c0 := (k1.cell 0).trans rfl
    have lG := hP.out.lt
    have ls := k1.lt
    by_cases hkl : k ≤ m
    · have hk0 : (0 : Int) ≤ (k : Int) := Int.natCast_nonneg _
      have hk1 : (k : Int) < (m : Int) + 1 := by omega
      have hk2 : (k : Int) ≤ (m : Int) := by omega
      have cO := (hP.out.cell k).trans (oc_at _ (show k < m + 1 by omega))
      rw [if_neg (Nat.lt_irrefl k)] at cO
      have fO := hP.out.frozen k
      have hA := hP.add (by omega)
      have k2 := (k1.far (p := ⟨G, k, none⟩) (by simp; omega) (.slice (some ⟨wr.heap.size, 0, none⟩) N N)).alloc (.cells (fc N (fun _ => Ln.fr0)) 70)
      have hB2 := (hB.setCell (p := ⟨G, k, none⟩) (by simp; omega) (.slice (some ⟨wr.heap.size, 0, none⟩) N N)).alloc (by rw [size_setCell]; omega) (.cells (fc N (fun _ => Ln.fr0)) 70)
      have REL := Lib.hid (And.intro hA (And.intro k2 hB2))
      clear hA k2 hB2 hP k1 hB
      by_cases hkz : k = 0
      · subst hkz
        have ez : ((0 : Int) == 0) = true := rfl
        go_upto_region 7 with (refine wpList_make_exact _ rfl _ _ 71 rfl 70 i2 _ 2 16 Try.underlying71 hi2 hx0 hx1 hx2 N rfl rfl (by omega) (by omega) (fc N (fun _ => Ln.fr0)) (fc_zero _) ?_)
        obtain ⟨hA, k2, hB2⟩ := REL.out
        obtain ⟨g, hg⟩ : ∃ g, wr.heap.size = g := ⟨_, rfl⟩
        rw [hg] at hA k2 hB2 lG ls ⊢
        obtain ⟨W2, hW2⟩ : ∃ W2, (wr.setCell ⟨G, 0, none⟩ (.slice (some ⟨g, 0, none⟩) N N)).alloc (.cells (fc N (fun _ => Ln.fr0)) 70) = W2 := ⟨_, rfl⟩
        have hAz := hA
        rw [hW2] at hA k2 hB2 ⊢
        clear REL hW2 hg c0 cO fO
        have o1 := hA.cellO (a := 0) (by omega) (by omega)
        obtain ⟨v1, v2⟩ := hA.cells (a := 0) (by omega) hb
        have r1 := hA.row 0 (by omega)
        have f1 := r1.frozen (b * 2)
        have f2 := r1.frozen (b * 2 + 1)
        have lg := r1.lt
        have lG2 := hA.out.lt
        have hgt := hA.gt 0 (by omega)
        have hset := hA.set (a := 0) (by omega) hb 0 true
        simp only [if_true] at o1 v1 v2 r1 f1 f2 lg hgt hset
        have hbi : (b : Int) < (N : Int) := by omega
        have hb0 : (0 : Int) ≤ (b : Int) := Int.natCast_nonneg _
        have kn := (k2.far (p := ⟨g, b * 2, none⟩) (by simp; omega) (.int .i64 0)).far (p := ⟨g, b * 2 + 1, none⟩) (by simp; omega) (.bool true)
        have hbn := (hB2.setCell (p := ⟨g, b * 2, none⟩) (by simp; omega) (.int .i64 0)).setCell (p := ⟨g, b * 2 + 1, none⟩) (by simp; omega) (.bool true)
        have REL := Lib.hid (And.intro hset (And.intro kn hbn))
        clear hA k2 hB2 r1 hset kn hbn
        go_wp2_with fail
        go_roundw
        case rel =>
          obtain ⟨hA, k2, hB2⟩ := REL.out
          refine ⟨1, _, by omega, by go_num, hA.congr fun a ha => ?_, k2, hB2⟩
          obtain rfl : a = 0 := by omega
          funext v
          show _ = Ln.st0 b v
          simp [Ln.st0]
        case measure => simp [intOf]; try omega
      · obtain ⟨k', rfl⟩ : ∃ k', k = k' + 1 := ⟨k - 1, by omega⟩
        have ez : (((k' + 1 : Nat) : Int) == 0) = false := by rw [beq_eq_false_iff_ne]; omega
        have hlv2 : IntKind.i64.wrap (lv + 1) = (n0 : Int) := by rw [hlv]; exact IntWalk.i64_in _ (by omega)
        go_upto_region 8 with (refine wpList_make_exact _ rfl _ _ 71 rfl 70 i2 _ 2 16 Try.underlying71 hi2 hx0 hx1 hx2 N rfl rfl (by omega) (by omega) (fc N (fun _ => Ln.fr0)) (fc_zero _) ?_)
        obtain ⟨hA, k2, hB2⟩ := REL.out
        obtain ⟨g, hg⟩ : ∃ g, wr.heap.size = g := ⟨_, rfl⟩
        rw [hg] at hA k2 hB2 lG ls ⊢
        obtain ⟨W2, hW2⟩ : ∃ W2, (wr.setCell ⟨G, k' + 1, none⟩ (.slice (some ⟨g, 0, none⟩) N N)).alloc (.cells (fc N (fun _ => Ln.fr0)) 70) = W2 := ⟨_, rfl⟩
        rw [hW2] at hA k2 hB2 ⊢
        obtain ⟨blk2, hblk2⟩ : ∃ blk2, (fun a => if a = k' + 1 then g else blk a) = blk2 := ⟨_, rfl⟩
        rw [hblk2] at hA
        obtain ⟨R, hRR⟩ : ∃ R, Ln.rowG bs n0 b = R := ⟨_, rfl⟩
        have hrow : R (k' + 1) = Ln.stR bs (R k') n0 bs.length := by rw [← hRR]; rfl
        have hA2 : SP W2 G (m + 1) N (k' + 1 + 1) blk2 (fun a => if a = k' + 1 then Ln.stR bs (R k') n0 n0 else R a) := hA.congr fun a ha => by
          by_cases e : a = k' + 1
          · rw [if_pos e, if_pos e, ← hRR, HSTART.out k']
          · rw [if_neg e, if_neg e, ← hRR]
        have hsum := HSUM.out
        have hsum2 := HSUM2.out k'
        have hstep := HSTEP.out k'
        rw [hRR] at hsum hsum2 hstep
        have HS1 := Lib.hid hsum
        have HS2 := Lib.hid hsum2
        have HS3 := Lib.hid hstep
        have HROW := Lib.hid hrow
        have HRR := Lib.hid hRR
        have HLV := Lib.hid hlv
        clear REL hW2 hg hblk2 hRR hA hsum hsum2 hstep hrow c0 cO fO hlv
        have c1 := (k2.cell 1).trans rfl
        have ls2 := k2.lt
        have REL := Lib.hid (And.intro hA2 (And.intro k2 hB2))
        clear hA2 k2 hB2
        go_wp2_with fail
        obtain ⟨hA, k2, hB2⟩ := REL.out
        clear REL c1 ls2
        have ez2 : ((k' : Int) + 1 == 0) = false := by rw [beq_eq_false_iff_ne]; omega
        simp only [ez2]
        go_loopw [11] (fun i wr => ∃ i0 : Nat, n0 ≤ i0 ∧ i0 ≤ bs.length ∧ i = .int .i64 i0 ∧ SP wr G (m + 1) N (k' + 1 + 1) blk2 (fun a => if a = k' + 1 then Ln.stR bs (R k') n0 i0 else R a) ∧ Bk wr sb 24 #[.int .i64 (N : Int), .slice A bs.length c] ∧ Below sb w wr)
          (fun i _ => bs.length - (intOf i).toNat)
        case atStart => exact ⟨n0, Nat.le_refl _, hn0, rfl, hA, k2, hB2⟩
        case round =>
          clear hA k2 hB2
          obtain ⟨i, hi1', hi2', rfl, hP, k2, hB⟩ := hrel
          have c1 := (k2.cell 1).trans rfl
          have ls2 := k2.lt
          by_cases hil : i < bs.length
          · have hi0' : (0 : Int) ≤ (i : Int) := Int.natCast_nonneg _
            have hil' : (i : Int) < bs.length := by omega
            obtain ⟨bb, off, rfl, hbb, e0, e1, e2, e3⟩ := (hRs.below hB (Nat.le_refl _)).bound hil
            rw [← Ln.bd_eq hil] at e0 e1 e2 e3
            have he := HEACH.out i hil
            have hst := HS3.out i hi1'
            obtain ⟨p, hp⟩ : ∃ p : Nat, (Ln.bd bs i).f = p := ⟨(Ln.bd bs i).f.toNat, by omega⟩
            obtain ⟨q, hq⟩ : ∃ q : Nat, (Ln.bd bs i).t = q := ⟨(Ln.bd bs i).t.toNat, by omega⟩
            obtain ⟨mm, hmm⟩ : ∃ mm, (Ln.bd bs i).m = mm := ⟨_, rfl⟩
            obtain ⟨rr, hrr⟩ : ∃ rr, (Ln.bd bs i).r = rr := ⟨_, rfl⟩
            rw [Ln.stS, hp, hq, hmm] at hst
            simp only [Int.toNat_natCast] at hst
            rw [hp, hq, hmm] at he
            rw [hp] at e0
            rw [hq] at e1
            rw [hmm] at e2
            rw [hrr] at e3
            have hpN : p < N := by omega
            have hqN : q < N := by omega
            have hm1 := he.2.2.1
            have hm2 := he.2.2.2
            have hbw : bb < wr.heap.size := by have := hB.size; have := HSB.out; omega
            have hpi : (p : Int) < (N : Int) := by omega
            have hqi : (q : Int) < (N : Int) := by omega
            have hp0 : (0 : Int) ≤ (p : Int) := Int.natCast_nonneg _
            have hq0 : (0 : Int) ≤ (q : Int) := Int.natCast_nonneg _
            have HST := Lib.hid hst
            have kX := Bk.new wr 50 #[.int .i64 p, .int .i64 q, .int .i64 mm, .int .i64 rr]
            have REL := Lib.hid (And.intro (hP.alloc (.cells #[.int .i64 p, .int .i64 q, .int .i64 mm, .int .i64 rr] 50)) (And.intro (k2.alloc (.cells #[.int .i64 p, .int .i64 q, .int .i64 mm, .int .i64 rr] 50)) (And.intro (hB.alloc (by have := hB.size; have := HSB.out; omega) (.cells #[.int .i64 p, .int .i64 q, .int .i64 mm, .int .i64 rr] 50)) kX)))
            clear hP k2 hB kX he hst hp hq hmm hrr
            go_upto_region 12 with fail
            obtain ⟨hP, k2, hB, kX⟩ := REL.out
            obtain ⟨X, hX⟩ : ∃ X, wr.heap.size = X := ⟨_, rfl⟩
            obtain ⟨W3, hW3⟩ : ∃ W3, wr.alloc (.cells #[.int .i64 p, .int .i64 q, .int .i64 mm, .int .i64 rr] 50) = W3 := ⟨_, rfl⟩
            rw [hX] at kX ls2 hbw ⊢
            rw [hW3] at hP k2 hB kX ⊢
            clear REL hX hW3 c1 e0 e1 e2 e3
            have x0 := (kX.cell 0).trans rfl
            have x1 := (kX.cell 1).trans rfl
            have x2 := (kX.cell 2).trans rfl
            have lX := kX.lt
            have o1 := hP.cellO (a := k') (by omega) (by omega)
            have o2 := hP.cellO (a := k' + 1) (by omega) (by omega)
            obtain ⟨v1, v2⟩ := hP.cells (a := k') (by omega) hqN
            obtain ⟨v3, v4⟩ := hP.cells (a := k' + 1) (by omega) hpN
            have l1 := (hP.row k' (by omega)).lt
            have l2 := (hP.row (k' + 1) (by omega)).lt
            have lG3 := hP.out.lt
            have hgt2 := hP.gt (k' + 1) (by omega)
            have hs1 := HS1.out k' q
            have hs2 := HS2.out i (by omega) p
            rw [if_neg (by omega)] at v1 v2
            rw [if_pos rfl] at v3 v4
            obtain ⟨⟨r0, r1⟩, hr⟩ : ∃ z, R k' q = z := ⟨_, rfl⟩
            obtain ⟨O, hO⟩ : ∃ O, Ln.stR bs (R k') n0 i = O := ⟨_, rfl⟩
            have hst := HST.out
            rw [hr, hO] at hst
            rw [hr] at v1 v2 hs1
            simp only [hO] at v3 v4 hs2 hP
            obtain ⟨⟨o0, ob⟩, hob⟩ : ∃ z, O p = z := ⟨_, rfl⟩
            rw [hob] at v3 v4 hs2 hst
            dsimp only at v1 v2 v3 v4 hs1 hs2 hst
            have hkm : (k' : Int) + 1 ≤ (m : Int) := by omega
            have hmi : (m : Int) ≤ 14 := by omega
            have hs1' : -100000000000 ≤ r0 ∧ r0 ≤ 100000000000 := by omega
            have hs2' : -100000000000 ≤ o0 ∧ o0 ≤ 100000000000 := by omega
            have HST2 := Lib.hid hst
            have REL := Lib.hid (And.intro hP (And.intro k2 (And.intro hB kX)))
            have hk9 : (0 : Int) ≤ (k' : Int) := Int.natCast_nonneg _
            have hk8 : (k' : Int) < (m : Int) + 1 := by omega
            have hk7 : (k' : Int) + 1 < (m : Int) + 1 := by omega
            clear hP k2 hB kX hst hr hO hob HST hs1 hs2
            rcases r1 with _ | _
            · go_quiet (fail)
              go_wp2_with fail
              go_roundw
              case rel =>
                obtain ⟨hP, k2, hB, _⟩ := REL.out
                have hst := HST2.out
                simp only [Bool.false_eq_true, if_false] at hst
                exact ⟨i + 1, by omega, by omega, by go_num, (by rw [hst]; exact hP.below (below_drewN (Below.refl _ _) _)), k2.below (below_drewN (Below.refl _ _) _) k2.lt, below_drewN hB _⟩
              case measure => simp [intOf]; omega
            · go_quiet (fail)
              go_upto_region 13 with fail
              have hSB : ∀ W, Below W3.heap.size W3 W → ((W.cell? ⟨G, k' + 1, none⟩ = some (.slice (some ⟨blk2 (k' + 1), 0, none⟩) N N) ∧ W.cell? ⟨G, k', none⟩ = some (.slice (some ⟨blk2 k', 0, none⟩) N N)) ∧ (W.cell? ⟨X, 0, none⟩ = some (.int .i64 (p : Int)) ∧ W.cell? ⟨X, 1, none⟩ = some (.int .i64 (q : Int))) ∧ W.cell? ⟨X, 2, none⟩ = some (.int .i64 mm)) ∧ (W.cell? ⟨blk2 k', q * 2, none⟩ = some (.int .i64 r0) ∧ W.cell? ⟨blk2 k', q * 2 + 1, none⟩ = some (.bool true)) ∧ W.cell? ⟨blk2 (k' + 1), p * 2, none⟩ = some (.int .i64 o0) ∧ W.cell? ⟨blk2 (k' + 1), p * 2 + 1, none⟩ = some (.bool ob) := fun W hb =>
                ⟨⟨⟨(hb.cell (p := ⟨G, k' + 1, none⟩) lG3).trans o2, (hb.cell (p := ⟨G, k', none⟩) lG3).trans o1⟩, ⟨(hb.cell (p := ⟨X, 0, none⟩) lX).trans x0, (hb.cell (p := ⟨X, 1, none⟩) lX).trans x1⟩, (hb.cell (p := ⟨X, 2, none⟩) lX).trans x2⟩, ⟨(hb.cell (p := ⟨blk2 k', q * 2, none⟩) l1).trans v1, (hb.cell (p := ⟨blk2 k', q * 2 + 1, none⟩) l1).trans v2⟩, (hb.cell (p := ⟨blk2 (k' + 1), p * 2, none⟩) l2).trans v3, (hb.cell (p := ⟨blk2 (k' + 1), p * 2 + 1, none⟩) l2).trans v4⟩
              obtain ⟨u, hu⟩ : ∃ u, Ln.lesserF (o0, ob) (r0 + mm, true) = u := ⟨_, rfl⟩
              have hles := fun w => lesser_any o0 ob (r0 + mm) true w
              rw [hu] at hles
              have hpl := fun w => plus_any r0 true mm (by omega) (by omega) (by omega) (by omega) w
              have HSB2 := Lib.hid hSB
              have HLES := Lib.hid hles
              have HPL := Lib.hid hpl
              have HU := Lib.hid hu
              have hbZ : Below W3.heap.size W3 (W3.drewN nq) := below_drewN (Below.refl W3.heap.size W3) nq
              have hwk2 : IntKind.i64.wrap (k' : Int) = (k' : Int) := IntWalk.i64_in _ (by omega)
              have hwk : IntKind.i64.wrap (((k' : Int) + 1) - 1) = (k' : Int) := by rw [show ((k' : Int) + 1) - 1 = (k' : Int) from by omega]; exact IntWalk.i64_in _ (by omega)
              clear hSB hles hpl hu o1 o2 v1 v2 v3 v4 x0 x1 x2
              refine wp_region_last2 (S := fun W => ((W.cell? ⟨G, k' + 1, none⟩ = some (.slice (some ⟨blk2 (k' + 1), 0, none⟩) N N) ∧ W.cell? ⟨G, k', none⟩ = some (.slice (some ⟨blk2 k', 0, none⟩) N N)) ∧ (W.cell? ⟨X, 0, none⟩ = some (.int .i64 (p : Int)) ∧ W.cell? ⟨X, 1, none⟩ = some (.int .i64 (q : Int))) ∧ W.cell? ⟨X, 2, none⟩ = some (.int .i64 mm)) ∧ (W.cell? ⟨blk2 k', q * 2, none⟩ = some (.int .i64 r0) ∧ W.cell? ⟨blk2 k', q * 2 + 1, none⟩ = some (.bool true)) ∧ W.cell? ⟨blk2 (k' + 1), p * 2, none⟩ = some (.int .i64 o0) ∧ W.cell? ⟨blk2 (k' + 1), p * 2 + 1, none⟩ = some (.bool ob)) 28 rfl rfl (by kernel_rfl) (by kernel_rfl) (HSB2.out _ hbZ.drew) (fun hHeld => ?_)
              simp only [List.take_succ_cons, List.take_zero]
              refine wpAnyH_take (i := 0) (v := ?_) rfl (by kernel_rfl) (by kernel_rfl) (by kernel_rfl) (fun _ _ _ h => h) (Or.inl ⟨by rfl, ?_⟩) (by assumption) ?_
              rotate_left
              · (intro w hSw; (try dsimp only at hSw); go_simp <;> with_reducible rfl)
              (try simp only [Act.put, List.setIfInBounds_toArray, List.set_cons_zero, List.set_cons_succ])
              refine wpAnyH_take (i := 1) (v := ?_) rfl (by kernel_rfl) (by kernel_rfl) (by kernel_rfl) (fun _ _ _ h => h) (Or.inl ⟨by rfl, ?_⟩) (by assumption) ?_
              rotate_left
              · (intro w hSw; (try dsimp only at hSw); go_simp <;> with_reducible rfl)
              (try simp only [Act.put, List.setIfInBounds_toArray, List.set_cons_zero, List.set_cons_succ])
              refine wpAnyH_take (i := 2) (v := ?_) rfl (by kernel_rfl) (by kernel_rfl) (by kernel_rfl) (fun _ _ _ h => h) (Or.inl ⟨by rfl, ?_⟩) (by assumption) ?_
              rotate_left
              · (intro w hSw; (try dsimp only at hSw); go_simp <;> with_reducible rfl)
              (try simp only [Act.put, List.setIfInBounds_toArray, List.set_cons_zero, List.set_cons_succ])
              refine wpAnyH_take (i := 3) (v := ?_) rfl (by kernel_rfl) (by kernel_rfl) (by kernel_rfl) (fun _ _ _ h => h) (Or.inl ⟨by rfl, ?_⟩) (by assumption) ?_
              rotate_left
              · (intro w hSw; (try dsimp only at hSw); go_simp <;> with_reducible rfl)
              (try simp only [Act.put, List.setIfInBounds_toArray, List.set_cons_zero, List.set_cons_succ])
              refine wpAnyH_take (i := 4) (v := ?_) rfl (by kernel_rfl) (by kernel_rfl) (by kernel_rfl) (fun _ _ _ h => h) (Or.inl ⟨by rfl, ?_⟩) (by assumption) ?_
              rotate_left
              · (intro w hSw; (try dsimp only at hSw); go_simp <;> with_reducible rfl)
              (try simp only [Act.put, List.setIfInBounds_toArray, List.set_cons_zero, List.set_cons_succ])
              refine wpAnyH_take (i := 5) (v := ?_) rfl (by kernel_rfl) (by kernel_rfl) (by kernel_rfl) (fun _ _ _ h => h) (Or.inl ⟨by rfl, ?_⟩) (by assumption) ?_
              rotate_left
              · (intro w hSw; (try dsimp only at hSw); go_simp <;> with_reducible rfl)
              (try simp only [Act.put, List.setIfInBounds_toArray, List.set_cons_zero, List.set_cons_succ])
              refine wpAnyH_take (i := 6) (v := ?_) rfl (by kernel_rfl) (by kernel_rfl) (by kernel_rfl) (fun _ _ _ h => h) (Or.inl ⟨by rfl, ?_⟩) (by assumption) ?_
              rotate_left
              · (intro w hSw; (try dsimp only at hSw); go_simp <;> with_reducible rfl)
              (try simp only [Act.put, List.setIfInBounds_toArray, List.set_cons_zero, List.set_cons_succ])
              refine wpAnyH_take (i := 7) (v := ?_) rfl (by kernel_rfl) (by kernel_rfl) (by kernel_rfl) (fun _ _ _ h => h) (Or.inl ⟨by rfl, ?_⟩) (by assumption) ?_
              rotate_left
              · (intro w hSw; (try dsimp only at hSw); go_simp <;> with_reducible rfl)
              (try simp only [Act.put, List.setIfInBounds_toArray, List.set_cons_zero, List.set_cons_succ])
              refine wpAnyH_take (i := 8) (v := ?_) rfl (by kernel_rfl) (by kernel_rfl) (by kernel_rfl) (fun _ _ _ h => h) (Or.inl ⟨by rfl, ?_⟩) (by assumption) ?_
              rotate_left
              · (intro w hSw; (try dsimp only at hSw); go_simp <;> with_reducible rfl)
              (try simp only [Act.put, List.setIfInBounds_toArray, List.set_cons_zero, List.set_cons_succ])
              refine wpAnyH_take (i := 9) (v := ?_) rfl (by kernel_rfl) (by kernel_rfl) (by kernel_rfl) (fun _ _ _ h => h) (Or.inl ⟨by rfl, ?_⟩) (by assumption) ?_
              rotate_left
              · (intro w hSw; (try dsimp only at hSw); go_simp <;> with_reducible rfl)
              (try simp only [Act.put, List.setIfInBounds_toArray, List.set_cons_zero, List.set_cons_succ])
              refine wpAnyH_take (i := 10) (v := ?_) rfl (by kernel_rfl) (by kernel_rfl) (by kernel_rfl) (fun _ _ _ h => h) (Or.inl ⟨by rfl, ?_⟩) (by assumption) ?_
              rotate_left
              · (intro w hSw; (try dsimp only at hSw); go_simp <;> with_reducible rfl)
              (try simp only [Act.put, List.setIfInBounds_toArray, List.set_cons_zero, List.set_cons_succ])
              refine wpAnyH_take (i := 11) (v := ?_) rfl (by kernel_rfl) (by kernel_rfl) (by kernel_rfl) (fun _ _ _ h => h) (Or.inl ⟨by rfl, ?_⟩) (by assumption) ?_
              rotate_left
              · (intro w hSw; (try dsimp only at hSw); go_simp <;> with_reducible rfl)
              (try simp only [Act.put, List.setIfInBounds_toArray, List.set_cons_zero, List.set_cons_succ])
              refine wpAnyH_take (i := 12) (v := ?_) rfl (by kernel_rfl) (by kernel_rfl) (by kernel_rfl) (fun _ _ _ h => h) (Or.inl ⟨by rfl, ?_⟩) (by assumption) ?_
              rotate_left
              · (intro w hSw; (try dsimp only at hSw); go_simp <;> with_reducible rfl)
              (try simp only [Act.put, List.setIfInBounds_toArray, List.set_cons_zero, List.set_cons_succ])
              refine wpAnyH_take (i := 13) (v := ?_) rfl (by kernel_rfl) (by kernel_rfl) (by kernel_rfl) (fun _ _ _ h => h) (Or.inl ⟨by rfl, ?_⟩) (by assumption) ?_
              rotate_left
              · (intro w hSw; (try dsimp only at hSw); go_simp <;> with_reducible rfl)
              (try simp only [Act.put, List.setIfInBounds_toArray, List.set_cons_zero, List.set_cons_succ])
              refine wpAnyH_take (i := 14) (v := ?_) rfl (by kernel_rfl) (by kernel_rfl) (by kernel_rfl) (fun _ _ _ h => h) (Or.inl ⟨by rfl, ?_⟩) (by assumption) ?_
              rotate_left
              · (intro w hSw; (try dsimp only at hSw); go_simp <;> with_reducible rfl)
              (try simp only [Act.put, List.setIfInBounds_toArray, List.set_cons_zero, List.set_cons_succ])
              refine wpAnyH_take (i := 15) (v := ?_) rfl (by kernel_rfl) (by kernel_rfl) (by kernel_rfl) (fun _ _ _ h => h) (Or.inl ⟨by rfl, ?_⟩) (by assumption) ?_
              rotate_left
              · (intro w hSw; (try dsimp only at hSw); go_simp <;> with_reducible rfl)
              (try simp only [Act.put, List.setIfInBounds_toArray, List.set_cons_zero, List.set_cons_succ])
              refine wpAnyH_take (i := 16) (v := ?_) rfl (by kernel_rfl) (by kernel_rfl) (by kernel_rfl) (fun _ _ _ h => h) (Or.inl ⟨by rfl, ?_⟩) (by assumption) ?_
              rotate_left
              · (intro w hSw; (try dsimp only at hSw); go_simp <;> with_reducible rfl)
              (try simp only [Act.put, List.setIfInBounds_toArray, List.set_cons_zero, List.set_cons_succ])
              refine wpAnyH_take (i := 17) (v := ?_) rfl (by kernel_rfl) (by kernel_rfl) (by kernel_rfl) (fun _ _ _ h => h) (Or.inl ⟨by rfl, ?_⟩) (by assumption) ?_
              rotate_left
              · (intro w hSw; (try dsimp only at hSw); go_simp <;> with_reducible rfl)
              (try simp only [Act.put, List.setIfInBounds_toArray, List.set_cons_zero, List.set_cons_succ])
              refine wpAnyH_take (i := 18) (v := ?_) rfl (by kernel_rfl) (by kernel_rfl) (by kernel_rfl) (fun _ _ _ h => h) (Or.inl ⟨by rfl, ?_⟩) (by assumption) ?_
              rotate_left
              · (intro w hSw; (try dsimp only at hSw); go_simp <;> with_reducible rfl)
              (try simp only [Act.put, List.setIfInBounds_toArray, List.set_cons_zero, List.set_cons_succ])
              refine wpAnyH_take (i := 19) (v := ?_) rfl (by kernel_rfl) (by kernel_rfl) (by kernel_rfl) (fun _ _ _ h => h) (Or.inl ⟨by rfl, ?_⟩) (by assumption) ?_
              rotate_left
              · (intro w hSw; (try dsimp only at hSw); go_simp <;> with_reducible rfl)
              (try simp only [Act.put, List.setIfInBounds_toArray, List.set_cons_zero, List.set_cons_succ])
              refine wpAnyH_take (i := 20) (v := ?_) rfl (by kernel_rfl) (by kernel_rfl) (by kernel_rfl) (fun _ _ _ h => h) (Or.inl ⟨by rfl, ?_⟩) (by assumption) ?_
              rotate_left
              · (intro w hSw; (try dsimp only at hSw); go_simp <;> with_reducible rfl)
              (try simp only [Act.put, List.setIfInBounds_toArray, List.set_cons_zero, List.set_cons_succ])
              refine wpAnyH_take (i := 21) (v := ?_) rfl (by kernel_rfl) (by kernel_rfl) (by kernel_rfl) (fun _ _ _ h => h) (Or.inl ⟨by rfl, ?_⟩) (by assumption) ?_
              rotate_left
              · (intro w hSw; (try dsimp only at hSw); go_simp <;> with_reducible rfl)
              (try simp only [Act.put, List.setIfInBounds_toArray, List.set_cons_zero, List.set_cons_succ])
              refine wpAnyH_take (i := 22) (v := ?_) rfl (by kernel_rfl) (by kernel_rfl) (by kernel_rfl) (fun _ _ _ h => h) (Or.inl ⟨by rfl, ?_⟩) (by assumption) ?_
              rotate_left
              · (intro w hSw; (try dsimp only at hSw); go_simp <;> with_reducible rfl)
              (try simp only [Act.put, List.setIfInBounds_toArray, List.set_cons_zero, List.set_cons_succ])
              refine wpAnyH_take (i := 23) (v := ?_) rfl (by kernel_rfl) (by kernel_rfl) (by kernel_rfl) (fun _ _ _ h => h) (Or.inl ⟨by rfl, ?_⟩) (by assumption) ?_
              rotate_left
              · (intro w hSw; (try dsimp only at hSw); go_simp <;> with_reducible rfl)
              (try simp only [Act.put, List.setIfInBounds_toArray, List.set_cons_zero, List.set_cons_succ])
              refine wpAnyH_take (i := 24) (v := ?_) rfl (by kernel_rfl) (by kernel_rfl) (by kernel_rfl) (fun _ _ _ h => h) (Or.inl ⟨by rfl, ?_⟩) (by assumption) ?_
              rotate_left
              · (intro w hSw; (try dsimp only at hSw); go_simp <;> with_reducible rfl)
              (try simp only [Act.put, List.setIfInBounds_toArray, List.set_cons_zero, List.set_cons_succ])
              refine wpAnyH_ready (rs := [25]) (by kernel_rfl) (by simp) ?_
              refine AllReadyH.cons rfl (fun K hK => ?_) AllReadyH.nil
              go_simp
              (go_at_call 70; refine (HPL.out _).mono ?_; rintro e w5 ⟨rfl, hb5⟩; have hbC : Below W3.heap.size W3 w5 := hbZ.drew.trans (hb5.mono hbZ.drew.size))
              (try go_wp2_with fail)
              refine hK.out _ _ (HSB2.out _ hbC) (fun hHeld => ?_)
              clear hK
              (try simp only [Act.put, List.setIfInBounds_toArray, List.set_cons_zero, List.set_cons_succ])
              refine wpAnyH_ready (rs := [26]) (by kernel_rfl) (by simp) ?_
              refine AllReadyH.cons rfl (fun K hK => ?_) AllReadyH.nil
              go_simp
              (go_at_call 69; refine (HLES.out _).mono ?_; rintro e w6 ⟨rfl, hb6⟩; have hbD : Below W3.heap.size W3 w6 := hbC.trans (hb6.mono hbC.size); obtain ⟨hP9, _⟩ := REL.out; have m6 := hP9.below hbD; have f0 := (m6.row (k' + 1) (by omega)).frozen (p * 2); have f1 := (m6.row (k' + 1) (by omega)).frozen (p * 2 + 1); obtain ⟨_, e0, e1⟩ := HSB2.out _ hbD; clear m6 hP9)
              (try go_wp2_with fail)
              refine hK.out _ _ (HSB2.out _ hbD) (fun hHeld => ?_)
              clear hK
              (try simp only [Act.put, List.setIfInBounds_toArray, List.set_cons_zero, List.set_cons_succ])
              refine wpAnyH_take (i := 27) (v := ?_) rfl (by kernel_rfl) (by kernel_rfl) (by kernel_rfl) (fun _ _ _ h => h) (Or.inl ⟨by rfl, ?_⟩) (by assumption) ?_
              rotate_left
              · (intro w hSw; (try dsimp only at hSw); go_simp <;> with_reducible rfl)
              (try simp only [Act.put, List.setIfInBounds_toArray, List.set_cons_zero, List.set_cons_succ])
              refine wpAnyH_done (by kernel_rfl) ?_ _
              simp only [QLast]
              go_wp2_with fail
              go_roundw
              case rel =>
                obtain ⟨hP, k2, hB, _⟩ := REL.out
                have hst := HST2.out
                rw [if_pos (by simp), HU.out] at hst
                have m9 := (hP.below hbD).set (a := k' + 1) (by omega) hpN u.1 u.2
                refine ⟨i + 1, by omega, by omega, by go_num, m9.congr fun a ha => ?_, (((k2.below hbD k2.lt).far (by simp; omega) _).far (by simp; omega) _), ((hB.trans (hbD.mono (by have := hB.size; have := HSB.out; have := k2.lt; omega))).setCell (by simp; omega) _).setCell (by simp; omega) _⟩
                by_cases e : a = k' + 1
                · rw [if_pos e, if_pos e, hst, if_pos rfl]
                · rw [if_neg e, if_neg e, if_neg e]
              case measure => simp [intOf]; omega
          · obtain rfl : i = bs.length := by omega
            have REL := Lib.hid (And.intro hP (And.intro k2 hB))
            clear hP k2 hB
            go_wp2_with fail
            go_roundw
            case rel =>
              obtain ⟨hP, k2, hB⟩ := REL.out
              refine ⟨k' + 1 + 1, blk2, by omega, by go_num, hP.congr fun a ha => ?_, k2, hB⟩
              by_cases e : a = k' + 1
              · rw [if_pos e, e, HRR.out, HROW.out]
              · rw [if_neg e, HRR.out]
            case measure => simp [intOf]; omega
    · obtain rfl : k = m + 1 := by omega
      have REL := Lib.hid (And.intro hP hB)
      clear hP k1 hB
      go_wp2_with fail
      go_ret
      exact ⟨G, blk, rfl, REL.out.1, by rw [HSB.out]; exact REL.out.2⟩

end Go.Proofs.Yteiaofgkmgllcaa
