/-
  The reference's Needless.
-/
import Derived.Test.YtppfpdhgckghdaaNdlM
import Derived.Test.YtppfpdhgckghdaaDsR
import Derived.Test.YtppfpdhgckghdaaSomR
import Derived.Test.YtppfpdhgckghdaaConcat
import Derived.Test.YtppfpdhgckghdaaApp
set_option linter.unusedVariables false
set_option linter.unusedSimpArgs false
namespace Go.Proofs.Ytppfpdhgckghdaa
open Go.RowKit Go.Shelf

theorem own_cap {w : World} {base : Nat} {e : TypeId} {size : Nat} {v : Value} {n : Nat} {xs : List Value} (h : w.ownsRow base e size v n xs) :
    ∃ A c, v = .slice A n c ∧ n ≤ c ∧ Rd w w.heap.size size A n xs := by
  rcases h.2 with ⟨rfl, h0⟩ | ⟨g, cap, cur, rfl, _, hg, hc, _⟩
  · exact ⟨none, 0, by rw [h0], by omega, h.1, fun hn => absurd hn (by omega)⟩
  · refine ⟨_, _, rfl, hc, h.1, fun hn => ⟨g, 0, rfl, (Array.getElem?_eq_some_iff.1 hg).1, fun j hj => ?_⟩⟩
    rw [Nat.zero_add]
    exact h.cellAt j hj
theorem bcells_cons (b : Ln.Bd) (l : List Ln.Bd) : bcells (b :: l) = .int .i64 b.f :: .int .i64 b.t :: .int .i64 b.m :: .int .i64 b.r :: bcells l := by simp [bcells, bcell]
theorem bcells_take (bs : List Ln.Bd) (i : Nat) : bcells (bs.take i) = (bcells bs).take (i * 4) := by
  induction bs generalizing i with
  | nil => simp [bcells]
  | cons b bs ih =>
    cases i with
    | zero => simp [bcells]
    | succ i =>
      rw [List.take_succ_cons, bcells_cons, bcells_cons, ih, show (i + 1) * 4 = i * 4 + 1 + 1 + 1 + 1 from by omega]
      rfl
theorem bcells_drop (bs : List Ln.Bd) (i : Nat) : bcells (bs.drop i) = (bcells bs).drop (i * 4) := by
  induction bs generalizing i with
  | nil => simp [bcells]
  | cons b bs ih =>
    cases i with
    | zero => simp [bcells]
    | succ i =>
      rw [List.drop_succ_cons, ih, bcells_cons, show (i + 1) * 4 = i * 4 + 1 + 1 + 1 + 1 from by omega]
      rfl
/-- The part of a slice ahead of an element, and the part behind it. -/
theorem rd_front {w : World} {B n i : Nat} {A : Option Addr} {bs : List Ln.Bd} (h : Rd w B 4 A n (bcells bs)) (hi : i ≤ n) (hn : n = bs.length) : Rd w B 4 A i (bcells (bs.take i)) := by
  refine ⟨by rw [bcells_length, List.length_take]; omega, fun hp => ?_⟩
  obtain ⟨b, off, e, hb, hc⟩ := h.2 (by omega)
  refine ⟨b, off, e, hb, fun j hj => ?_⟩
  rw [hc j (by omega), bcells_take, List.getElem?_take_of_lt (by omega)]
theorem rd_back {w : World} {B n i b off : Nat} {bs : List Ln.Bd} (h : Rd w B 4 (some ⟨b, off, none⟩) n (bcells bs)) (hi : i ≤ n) (hn : n = bs.length) : Rd w B 4 (some ⟨b, off + i * 4, none⟩) (n - i) (bcells (bs.drop i)) := by
  refine ⟨by rw [bcells_length, List.length_drop]; omega, fun hp => ?_⟩
  obtain ⟨b', off', e, hb, hc⟩ := h.2 (by omega)
  cases e
  refine ⟨_, _, rfl, hb, fun j hj => ?_⟩
  rw [Nat.add_assoc, hc (i * 4 + j) (by omega), bcells_drop, List.getElem?_drop]

theorem size63 : (Try.prog.info? 63).map (fun i => i.size) = some 4 := by kernel_rfl
theorem sizeB (w : World) : (sizeOf 63).run Try.prog w = .ok 4 w := by kernel_rfl
theorem elemB : Try.prog.elem 22 = 63 := by kernel_rfl
theorem front_slice {m c i : Nat} {A : Option Addr} (hc : i ≤ c) (w : World) : (Instr.slice 22 (.slice A m c) none (some (.int .i64 (i : Int))) none).run Try.prog w = .ok (.slice A i c) w := by
  rw [run_slice_h w 22 A m c (by rw [elemB]; exact Try.underlying22) .i64 (i : Int) (by omega) (by omega), elemB, sizeB]
  simp only [Result.andThen]
  rw [Int.toNat_natCast]
  unfold sliced
  by_cases e : c = 0
  · rw [if_pos e]
    rfl
  · rw [if_neg e]
    rcases A with _ | ⟨b, off, p⟩
    · rfl
    · rw [Option.map_some, show (⟨b, off, p⟩ : Addr).add (0 * 4) = ⟨b, off, p⟩ from by unfold Addr.add; split <;> simp_all]
      rfl
/-- A slice's part behind an element, as the program makes it. -/
theorem back_slice {B m c i : Nat} {A : Option Addr} {cs : List Ln.Bd} {w0 : World} (h : Rd w0 B 4 A m (bcells cs)) (hm : m = cs.length) (hc : m ≤ c) (hi : i < m) :
    ∃ A9, (∀ w : World, (Instr.slice 22 (.slice A m c) (some (.int .i64 ((i : Int) + 1))) none none).run Try.prog w = .ok (.slice A9 (m - (i + 1)) (c - (i + 1))) w) ∧ Rd w0 B 4 A9 (m - (i + 1)) (bcells (cs.drop (i + 1))) := by
  have hrun : ∀ w : World, (Instr.slice 22 (.slice A m c) (some (.int .i64 ((i : Int) + 1))) none none).run Try.prog w = .ok (sliced A (i + 1) m c 4) w := fun w => by
    rw [run_slice_l w 22 A m c (by rw [elemB]; exact Try.underlying22) .i64 ((i : Int) + 1) (by omega) (by omega), elemB, sizeB]
    simp only [Result.andThen]
    rw [show ((i : Int) + 1).toNat = i + 1 from by omega]
  obtain ⟨b, off, rfl, hb, hcell⟩ := h.2 (by omega)
  unfold sliced at hrun
  by_cases e : c = i + 1
  · rw [if_pos e] at hrun
    refine ⟨_, hrun, ?_⟩
    have e2 : m = i + 1 := by omega
    rw [e2, Nat.sub_self, List.drop_eq_nil_of_le (by omega)]
    exact Rd.nil _ _ _ _
  · rw [if_neg e] at hrun
    refine ⟨_, hrun, ?_⟩
    have := rd_back h (i := i + 1) (by omega) hm
    rw [Option.map_some, show (⟨b, off, none⟩ : Addr).add ((i + 1) * 4) = ⟨b, off + (i + 1) * 4, none⟩ from by unfold Addr.add; split <;> simp_all]
    exact this

set_option maxRecDepth 100000 in
set_option maxHeartbeats 4000000 in
theorem rneedless_any (N : Int) (A : Option Addr) (c : Nat) (bs : List Ln.Bd) (w : World) (hR : Rd w w.heap.size 4 A bs.length (bcells bs)) (hc : Ln.Lv bs) (h14 : Ln.check N bs = 0 → N ≤ 14) :
    Calls Try.prog 44 #[.agg #[.int .i64 N, .slice A bs.length c]] w fun e w' => ∃ A' c', e = .returned (.tuple #[.slice A' (Ln.ndF N bs).1.length c', .int .i64 (Ln.ndF N bs).2]) ∧ Rd w' w'.heap.size 1 A' (Ln.ndF N bs).1.length (nlist (Ln.ndF N bs).1) ∧ Below w.heap.size w w' := by
  obtain ⟨i0, hi0, hz0, hz1, hz2⟩ := info_parts info3
  obtain ⟨i1, hi1, hy0, hy1, hy2⟩ := info_parts info69'
  have hB0 : Below w.heap.size w (w.alloc (.cells #[.int .i64 N, .slice A bs.length c] 24)) := (Below.refl _ _).alloc (Nat.le_refl _) _
  have hR1 := (hR.below hB0 (Nat.le_refl _)).more hB0.size
  have k0 := Bk.new w 24 #[.int .i64 N, .slice A bs.length c]
  have hP0 : ∀ w : World, Rd w w.heap.size 1 none ([] : List Int).length (ints []) := fun w => Rd.nil _ _ _ _
  by_cases hs : Ln.soundF N bs [] = 0
  · obtain ⟨hcp, hco, hck⟩ := Ln.sound_zero hs
    obtain ⟨hok, hNt⟩ := Ln.ok_of_check hck
    have hNN := (Ln.cons_iff hok).1 hco
    have hpos := hok.pos
    have h14' := h14 hck
    have hbl := (Ln.check_len hck).1
    rw [Ln.ndF_ok hs]
    obtain ⟨n, hn⟩ : ∃ n, N.toNat = n := ⟨_, rfl⟩
    rw [hn] at hok hNt hpos ⊢
    subst hNt
    have hnd := fun j (hj : j < bs.length) => Ln.ndR hok hc.live hNN hj
    have hlen := fun j => Ln.ndK_length hok (bs := bs) j
    have hal : ∀ j, (Ln.alive (Ln.ndK bs n j).1).length ≤ 2000 := fun j => by
      have h1 := Ln.alive_length (Ln.ndK bs n j).1
      have h2 := (Ln.needK_same hok ((List.range j).map fun k => bs.length - 1 - k)).2.1
      unfold Ln.ndK at h1 ⊢
      omega
    have ha0 : Ln.alive (Ln.ndK bs n 0).1 = bs := Ln.alive_id hc.live
    have hmx := fun cs (h1 : Ln.Ok n cs) (h2 : ∀ b ∈ cs, b.gone = false) (h3 : Ln.NoNeg cs) A c w hR => matrix_fine h1 h2 h3 (by omega) A c w hR
    have HS := Lib.hid hs
    have HND := Lib.hid hnd
    have HLEN := Lib.hid hlen
    have HAL := Lib.hid hal
    have HA0 := Lib.hid ha0
    have HMX := Lib.hid hmx
    clear hs hcp hco hck hnd hlen hal ha0 hmx hok hNN
    go_enter Try.func44, Try.ntmps44
    go_wp2_with fail
    refine (rpointed_any (n : Int) A c bs none 0 [] _ hR1 hc (hP0 _) (by simp)).mono ?_
    rw [HS.out]
    rintro e w1 ⟨rfl, hb1⟩
    have k1 := k0.below hb1 (by simp)
    have hB1 := hB0.trans (hb1.mono hB0.size)
    have hR2 := (hR.below hB1 (Nat.le_refl _)).more hB1.size
    have c1 := (k1.cell 1).trans rfl
    have l1 := k1.lt
    have hown0 : (w1.alloc (.cells #[] 63)).ownsRow w1.heap.size 63 4 (.slice (some ⟨w1.heap.size, 0, none⟩) 0 0) 0 [] := World.ownsRow_lit w1 #[] 0 (Nat.le_refl _) (by unfold maxLen; omega) rfl
    have hbW : Below w1.heap.size w1 (w1.alloc (.cells #[] 63)) := (Below.refl _ _).alloc (Nat.le_refl _) _
    have hR3 := (hR2.below hbW (Nat.le_refl _)).more hbW.size
    have REL := Lib.hid (And.intro k1 hB1)
    clear k0 k1 hB0 hB1 hb1 hR1 hR2
    go_wp2_with (at_builtin; refine wpList_append_rd rfl (.tmp 16) (.tmp 18) 22 rfl w1.heap.size 63 i1 _ 4 32 Try.underlying22 hi1 hy0 hy1 hy2 rfl (by omega) (.slice (some ⟨w1.heap.size, 0, none⟩) 0 0) 0 [] rfl hown0 A bs.length c _ (bcells bs) rfl hR3 (bcells_one bs) (by unfold maxLen; omega) (by omega) (by simp) ?_; intro v1 w2 hown1 hg1 hat1; rw [Nat.zero_add, List.nil_append] at hown1; obtain ⟨A5, c5, rfl, hc5, hr5⟩ := own_cap hown1)
    obtain ⟨k1, hB1⟩ := REL.out
    have hb2 := hbW.grown hg1 (by simp) (fun j e => (hown0.lt j e).1)
    have k2 := k1.below hb2 l1
    have hB2 := hB1.trans (hb2.mono hB1.size)
    clear REL hown0 hbW hR3 hown1 hg1 hat1 k1 hB1 c1 l1 hb2 hR
    obtain ⟨sb, hsb⟩ : ∃ sb, w.heap.size = sb := ⟨_, rfl⟩
    rw [hsb] at k2 ⊢
    have HSB := Lib.hid hsb
    clear hsb
    go_loopw [5, 6, 7] (fun S O i wr => ∃ (j : Nat) (A5 : Option Addr) (c5 : Nat) (A6 : Option Addr) (c6 : Nat), j ≤ bs.length ∧ i = .int .i64 ((bs.length : Int) - 1 - j) ∧ S = .slice A5 (Ln.alive (Ln.ndK bs n j).1).length c5 ∧ (Ln.alive (Ln.ndK bs n j).1).length ≤ c5 ∧ O = .slice A6 (Ln.ndK bs n j).2.length c6 ∧
        Rd wr wr.heap.size 4 A5 (Ln.alive (Ln.ndK bs n j).1).length (bcells (Ln.alive (Ln.ndK bs n j).1)) ∧ Rd wr wr.heap.size 1 A6 (Ln.ndK bs n j).2.length (nlist (Ln.ndK bs n j).2.reverse) ∧ Bk wr sb 24 #[.int .i64 (n : Int), .slice A bs.length c] ∧ Below w.heap.size w wr)
      (fun _ _ i _ => (intOf i + 1).toNat)
    case atStart => exact ⟨0, A5, c5, none, 0, Nat.zero_le _, by go_num, by rw [HA0.out], by rw [HA0.out]; exact hc5, rfl, by rw [HA0.out]; exact hr5, Rd.nil _ _ _ _, k2, hB2⟩
    case round =>
      clear hr5 k2 hB2
      obtain ⟨j, A5, c5, A6, c6, hj, rfl, rfl, hc5, rfl, hr5, hr6, k2, hB⟩ := hrel
      by_cases hjl : j < bs.length
      · obtain ⟨r1, r2, r3, r4, r5, r6, r7⟩ := HND.out j hjl
        have hal := HAL.out j
        have hln := HLEN.out j
        have hnx := fun x hx => Ln.ndK_next (bs := bs) (N := n) (j := j) (x := x) hx r7.2.2.2.2.2
        obtain ⟨i, hi⟩ : ∃ i, bs.length - 1 - j = i := ⟨_, rfl⟩
        have hie : (bs.length : Int) - 1 - j = i := by omega
        rw [hie]
        simp only [hi] at r1 r2 r3 r4 r5 r6 r7 hnx
        obtain ⟨st, hst⟩ : ∃ st, Ln.ndK bs n j = st := ⟨_, rfl⟩
        simp only [hst] at hal hln r1 r2 r3 r4 r5 r6 r7 hnx hc5 hr5 hr6 ⊢
        obtain ⟨cs, out⟩ := st
        dsimp only at hal hln r1 r2 r3 r4 r5 r6 r7 hnx hc5 hr5 hr6 ⊢
        obtain ⟨ac, hac⟩ : ∃ ac, Ln.alive cs = ac := ⟨_, rfl⟩
        rw [hac] at hal r1 r2 r3 hc5 hr5 ⊢
        have hbd := r2
        obtain ⟨⟨bf, bt, bm, br, bg⟩, hx⟩ : ∃ x, Ln.bd cs i = x := ⟨_, rfl⟩
        rw [hx] at hbd
        simp only [hx] at r7 hnx
        obtain ⟨b5, o5, rfl, hb5, e0, e1, e2, e3⟩ := hr5.bound r1
        rw [← Ln.bd_eq r1, hbd] at e0 e1 e2 e3
        dsimp only at e0 e1 e2 e3 r7 hnx
        have c0 := (k2.cell 0).trans rfl
        have l2 := k2.lt
        have hb5' : b5 < wr.heap.size := hb5
        have hi0' : (0 : Int) ≤ (i : Int) := Int.natCast_nonneg _
        have hi1' : (i : Int) < ac.length := by omega
        have hbc := fun w => front_slice (m := ac.length) (A := some ⟨b5, o5, none⟩) (show i ≤ c5 by omega) w
        obtain ⟨A9, hsl, hbk⟩ := back_slice hr5 rfl hc5 r1
        have hfr := rd_front hr5 (Nat.le_of_lt r1) rfl
        have hrc : bcells (Ln.alive (Ln.kill cs i)) = bcells (ac.take i) ++ bcells (ac.drop (i + 1)) := by rw [r3, bcells_append]
        have hrl : (Ln.alive (Ln.kill cs i)).length = i + (ac.length - (i + 1)) := by rw [r3, List.length_append, List.length_take, List.length_drop]; omega
        obtain ⟨rs, hrs⟩ : ∃ rs, Ln.alive (Ln.kill cs i) = rs := ⟨_, rfl⟩
        rw [hrs] at hrc hrl r4 r5 r6
        have hrlv : ∀ b ∈ rs, b.gone = false := by rw [← hrs]; exact Ln.alive_live _
        have HMR := Lib.hid (fun A c w h => HMX.out rs r4 hrlv r5 A c w h)
        have R6 := Lib.hid r6
        have HRC := Lib.hid hrc
        have HRL := Lib.hid hrl
        have HNX := Lib.hid hnx
        have HRS := Lib.hid hrs
        have HAC := Lib.hid hac
        have HST := Lib.hid hst
        have HX := Lib.hid hx
        have hB1x := (Below.refl wr.heap.size wr).alloc (Nat.le_refl _) (.cells #[.int .i64 bf, .int .i64 bt, .int .i64 bm, .int .i64 br] 63)
        have kX := Bk.new wr 63 #[.int .i64 bf, .int .i64 bt, .int .i64 bm, .int .i64 br]
        have REL := Lib.hid (And.intro (hr5.below hB1x (Nat.le_refl _) |>.more hB1x.size) (And.intro (hr6.below hB1x (Nat.le_refl _) |>.more hB1x.size) (And.intro (k2.alloc (.cells #[.int .i64 bf, .int .i64 bt, .int .i64 bm, .int .i64 br] 63)) (And.intro (hB.trans (hB1x.mono hB.size)) (And.intro (hbk.below hB1x (Nat.le_refl _) |>.more hB1x.size) (And.intro (hfr.below hB1x (Nat.le_refl _) |>.more hB1x.size) kX))))))
        clear hr5 hr6 k2 hB hbk hfr kX r3 r4 r5 r6 hrc hrl hrs hrlv hnx hac hst hx hbd r2 hB1x
        go_upto_region 10 with fail
        obtain ⟨hr5, hr6, k2, hB, hbk, hfr, kX⟩ := REL.out
        obtain ⟨X, hX⟩ : ∃ X, wr.heap.size = X := ⟨_, rfl⟩
        obtain ⟨W1, hW1⟩ : ∃ W1, wr.alloc (.cells #[.int .i64 bf, .int .i64 bt, .int .i64 bm, .int .i64 br] 63) = W1 := ⟨_, rfl⟩
        rw [hX] at kX hb5' l2 ⊢
        rw [hW1] at hr5 hr6 k2 hB hbk hfr kX ⊢
        clear REL hX hW1 e0 e1 e2 e3 hb5 c0
        have c0 := (k2.cell 0).trans rfl
        have l3 := k2.lt
        have lX := kX.lt
        have x0 := (kX.cell 0).trans rfl
        have x1 := (kX.cell 1).trans rfl
        have hSB : ∀ W, Below W1.heap.size W1 W → W.cell? ⟨sb, 0, none⟩ = some (.int .i64 (n : Int)) ∧ (W.cell? ⟨X, 0, none⟩ = some (.int .i64 bf) ∧ W.cell? ⟨X, 1, none⟩ = some (.int .i64 bt)) := fun W hb => ⟨(hb.cell (p := ⟨sb, 0, none⟩) l3).trans c0, (hb.cell (p := ⟨X, 0, none⟩) lX).trans x0, (hb.cell (p := ⟨X, 1, none⟩) lX).trans x1⟩
        have HSB2 := Lib.hid hSB
        have hbZ : Below W1.heap.size W1 W1.drew := (Below.refl _ _).drew
        have hbY : Below W1.heap.size W1 (W1.alloc (.cells #[] 63)).drew := ((Below.refl _ _).alloc (Nat.le_refl _) _).drew
        have O7 := Lib.hid ((World.ownsRow_lit (base := W1.heap.size) (e := 63) (size := 4) W1 #[] 0 (Nat.le_refl _) (by decide) rfl).drew)
        have HFR := Lib.hid (fun W (hb : Below W1.heap.size W1 W) => (hfr.below hb (Nat.le_refl _)).more hb.size)
        have HBK := Lib.hid (fun W (hb : Below W1.heap.size W1 W) => (hbk.below hb (Nat.le_refl _)).more hb.size)
        have REL := Lib.hid (And.intro hr5 (And.intro hr6 (And.intro k2 (And.intro hB kX))))
        clear hr5 hr6 k2 hB kX hfr hbk hSB c0 x0 x1
        have hwr : IntKind.i64.wrap ((i : Int) + 1) = (i : Int) + 1 := IntWalk.i64_in _ (by omega)
        obtain ⟨V5, hV5⟩ : ∃ V, Value.slice (some ⟨b5, o5, none⟩) ac.length c5 = V := ⟨_, rfl⟩
        rw [hV5] at hbc hsl ⊢
        have HV5 := Lib.hid hV5
        clear hV5
        go_cut [9] (fun s9 wx => ∃ A' c', s9 = .slice A' rs.length c' ∧ rs.length ≤ c' ∧ Rd wx wx.heap.size 4 A' rs.length (bcells rs) ∧ Below W1.heap.size W1 wx)
        case first =>
          go_region_held3 (fun w' => w'.cell? ⟨sb, 0, none⟩ = some (.int .i64 (n : Int)))
            (first
              | (with_reducible exact (HSB2.out _ hbC).1) | (with_reducible exact (HSB2.out _ hbE).1) | (with_reducible exact (HSB2.out _ hbY).1) | (with_reducible exact (HSB2.out _ hbZ).1)
              | ((try dsimp only); first | (with_reducible exact (HSB2.out _ hbC).1) | (with_reducible exact (HSB2.out _ hbE).1) | (with_reducible exact (HSB2.out _ hbY).1))
              | go_keep)
            (first
              | (refine step_append_rd rfl (.tmp 31) (.tmp 34) 22 rfl W1.heap.size 63 i1 _ 4 32 Try.underlying22 hi1 hy0 hy1 hy2 rfl (by omega) (.slice (some ⟨W1.heap.size, 0, none⟩) 0 0) 0 [] (by rfl) O7.out (some ⟨b5, o5, none⟩) i c5 _ (bcells (ac.take i)) (by rfl) (HFR.out _ hbY) (bcells_one _) (by unfold maxLen; omega) (by omega) hbY.size ?_; intro v1 Wa hown1 hg1 hat1; have hbE : Below W1.heap.size W1 Wa := hbY.grown hg1 hbY.size (fun j e => (O7.out.lt j e).1))
              | (refine step_append_rd rfl (.tmp 35) (.tmp 39) 22 rfl W1.heap.size 63 i1 _ 4 32 Try.underlying22 hi1 hy0 hy1 hy2 rfl (by omega) v1 (0 + i) ([] ++ bcells (ac.take i)) (by rfl) hown1 A9 (ac.length - (i + 1)) (c5 - (i + 1)) _ (bcells (ac.drop (i + 1))) (by rfl) (HBK.out _ hbE) (bcells_one _) (by unfold maxLen; omega) (by omega) hbE.size ?_; intro v3 w3 hown3 hg3 hat3; have hbC : Below W1.heap.size W1 w3 := hbE.grown hg3 hbE.size (fun j e => (hown1.lt j e).1); obtain ⟨A', c', rfl, hcc, hrd3⟩ := own_cap (w := w3) (base := W1.heap.size) (e := 63) (size := 4) (n := rs.length) (xs := bcells rs) (by rw [HRL.out, HRC.out]; simpa using hown3)))
          all_goals
            go_wp2_with fail
            go_meet
            exact ⟨A', c', by rw [HRL.out], hcc, hrd3, hbC⟩
        case rest =>
          obtain ⟨A', c', rfl, hcc, hrd, hbx⟩ := hcut
          obtain ⟨hr5, hr6, k2, hB, kX⟩ := REL.out
          obtain ⟨W2, hW2⟩ : ∃ W2, W2 = wc := ⟨_, rfl⟩
          subst hW2
          have hr5' := (hr5.below hbx (Nat.le_refl _)).more hbx.size
          have hr6' := (hr6.below hbx (Nat.le_refl _)).more hbx.size
          have k2' := k2.below hbx l3
          have kX' := kX.below hbx lX
          have hB' := hB.trans (hbx.mono hB.size)
          have c0 := (k2'.cell 0).trans rfl
          have x0 := (kX'.cell 0).trans rfl
          have x1 := (kX'.cell 1).trans rfl
          have x2 := (kX'.cell 2).trans rfl
          have l3' := k2'.lt
          have lX' := kX'.lt
          have hSB : ∀ W, Below W2.heap.size W2 W → W.cell? ⟨sb, 0, none⟩ = some (.int .i64 (n : Int)) ∧ (W.cell? ⟨X, 0, none⟩ = some (.int .i64 bf) ∧ W.cell? ⟨X, 1, none⟩ = some (.int .i64 bt)) := fun W hb => ⟨(hb.cell (p := ⟨sb, 0, none⟩) l3').trans c0, (hb.cell (p := ⟨X, 0, none⟩) lX').trans x0, (hb.cell (p := ⟨X, 1, none⟩) lX').trans x1⟩
          have HSB3 := Lib.hid hSB
          have HRD := Lib.hid (fun W (hb : Below W2.heap.size W2 W) => (hrd.below hb (Nat.le_refl _)).more hb.size)
          have REL2 := Lib.hid (And.intro hr5' (And.intro hr6' (And.intro k2' (And.intro hB' (And.intro kX' hrd)))))
          obtain ⟨hf1, hf2, hf3, hf4, hm1, hm2⟩ := r7
          obtain ⟨p, hp⟩ : ∃ p : Nat, bf = p := ⟨bf.toNat, by omega⟩
          obtain ⟨q, hq⟩ : ∃ q : Nat, bt = q := ⟨bt.toNat, by omega⟩
          subst hp
          subst hq
          have hpn : p < n := by omega
          have hqn : q < n := by omega
          have hp0 : (0 : Int) ≤ (p : Int) := Int.natCast_nonneg _
          have hq0 : (0 : Int) ≤ (q : Int) := Int.natCast_nonneg _
          have hpi : (p : Int) < (n : Int) := by omega
          have hqi : (q : Int) < (n : Int) := by omega
          have hsame := R6.out p q hpn hqn
          have hnx := HNX.out _ rfl
          simp only [Int.toNat_natCast] at hnx
          rw [← hsame] at hnx
          obtain ⟨x, hxx⟩ : ∃ x, Ln.gt (Ln.distF rs n p) q = x := ⟨_, rfl⟩
          rw [hxx] at hnx
          obtain ⟨⟨d0, d1⟩, hd⟩ : ∃ d, Ln.ffar x = d := ⟨_, rfl⟩
          rw [hd] at hnx
          dsimp only at hnx
          have HNX2 := Lib.hid hnx
          have HXX := Lib.hid hxx
          have HD := Lib.hid hd
          have hbZ : Below W2.heap.size W2 W2.drew := (Below.refl _ _).drew
          have hbY : Below W2.heap.size W2 (W2.alloc (.cells #[.int .i64 0, .bool false] 71)).drew := ((Below.refl _ _).alloc (Nat.le_refl _) _).drew
          have KZ := Lib.hid (show Bk (W2.alloc (.cells #[.int .i64 0, .bool false] 71)).drew W2.heap.size 71 #[.int .i64 0, .bool false] from Bk.new W2 _ _)
          have ZSZ := Lib.hid (show (W2.alloc (.cells #[.int .i64 0, .bool false] 71)).drew.heap.size = W2.heap.size + 1 from World.size_alloc _ _)
          clear hr5 hr6 k2 hB kX hr5' hr6' k2' hB' kX' hrd hSB hbx REL hxx hd hnx hsame hsl hbc c0 x0 x1 x2 HNX
          go_upto_region 11 with fail
          go_cut [10] (fun s10 wx => ∃ xb, s10 = .pointer (some ⟨xb, 0, none⟩) ∧ W2.heap.size ≤ xb ∧ Bk wx xb 71 #[.int .i64 d0, .bool d1] ∧ Below W2.heap.size W2 wx)
          case first =>
            refine wp_region_held_drew (S := fun w' => w'.cell? ⟨sb, 0, none⟩ = some (.int .i64 (n : Int)) ∧ (w'.cell? ⟨X, 0, none⟩ = some (.int .i64 (p : Int)) ∧ w'.cell? ⟨X, 1, none⟩ = some (.int .i64 (q : Int)))) (by kernel_rfl) (HSB3.out _ hbZ) (fun _ => ?_)
            refine wpAnyH_take (i := 0) (v := ?_) rfl (by kernel_rfl) (by kernel_rfl) (by kernel_rfl) (fun _ _ _ h => h) (Or.inl ⟨by rfl, ?_⟩) (HSB3.out _ hbZ) ?_
            rotate_left
            · (intro w hSw; (try dsimp only at hSw); go_simp <;> with_reducible rfl)
            (try simp only [Act.put, List.setIfInBounds_toArray, List.set_cons_zero, List.set_cons_succ])
            refine wpAnyH_take (i := 1) (v := ?_) rfl (by kernel_rfl) (by kernel_rfl) (by kernel_rfl) (fun _ _ _ h => h) (Or.inl ⟨by rfl, ?_⟩) (HSB3.out _ hbZ) ?_
            rotate_left
            · (intro w hSw; (try dsimp only at hSw); go_simp <;> with_reducible rfl)
            (try simp only [Act.put, List.setIfInBounds_toArray, List.set_cons_zero, List.set_cons_succ])
            refine wpAnyH_take (i := 2) (v := ?_) rfl (by kernel_rfl) (by kernel_rfl) (by kernel_rfl) (fun _ _ _ h => h) (Or.inl ⟨by rfl, ?_⟩) (HSB3.out _ hbZ) ?_
            rotate_left
            · (intro w hSw; (try dsimp only at hSw); go_simp <;> with_reducible rfl)
            (try simp only [Act.put, List.setIfInBounds_toArray, List.set_cons_zero, List.set_cons_succ])
            refine wpAnyH_take (i := 3) (v := ?_) rfl (by kernel_rfl) (by kernel_rfl) (by kernel_rfl) (fun _ _ _ h => h) (Or.inl ⟨by rfl, ?_⟩) (HSB3.out _ hbZ) ?_
            rotate_left
            · (intro w hSw; (try dsimp only at hSw); go_simp <;> with_reducible rfl)
            (try simp only [Act.put, List.setIfInBounds_toArray, List.set_cons_zero, List.set_cons_succ])
            refine wpAnyH_take (i := 5) (v := ?_) rfl (by kernel_rfl) (by kernel_rfl) (by kernel_rfl) (fun _ _ _ h => h) (Or.inl ⟨by rfl, ?_⟩) (HSB3.out _ hbZ) ?_
            rotate_left
            · (intro w hSw; (try dsimp only at hSw); go_simp <;> with_reducible rfl)
            (try simp only [Act.put, List.setIfInBounds_toArray, List.set_cons_zero, List.set_cons_succ])
            refine wpAnyH_take (i := 6) (v := ?_) rfl (by kernel_rfl) (by kernel_rfl) (by kernel_rfl) (fun _ _ _ h => h) (Or.inl ⟨by rfl, ?_⟩) (HSB3.out _ hbZ) ?_
            rotate_left
            · (intro w hSw; (try dsimp only at hSw); go_simp <;> with_reducible rfl)
            (try simp only [Act.put, List.setIfInBounds_toArray, List.set_cons_zero, List.set_cons_succ])
            refine wpAnyH_take (i := 9) (v := ?_) rfl (by kernel_rfl) (by kernel_rfl) (by kernel_rfl) (fun _ _ _ h => h) (Or.inl ⟨by rfl, ?_⟩) (HSB3.out _ hbZ) ?_
            rotate_left
            · (intro w hSw; (try dsimp only at hSw); go_simp <;> with_reducible rfl)
            (try simp only [Act.put, List.setIfInBounds_toArray, List.set_cons_zero, List.set_cons_succ])
            refine wpAnyH_take (i := 10) (v := ?_) rfl (by kernel_rfl) (by kernel_rfl) (by kernel_rfl) (fun _ _ _ h => h) (Or.inl ⟨by rfl, ?_⟩) (HSB3.out _ hbZ) ?_
            rotate_left
            · (intro w hSw; (try dsimp only at hSw); go_simp <;> with_reducible rfl)
            (try simp only [Act.put, List.setIfInBounds_toArray, List.set_cons_zero, List.set_cons_succ])
            refine wpAnyH_ready (rs := [4, 13]) (by kernel_rfl) (by simp) ?_
            refine AllReadyH.cons rfl (fun K hK => ?_) (AllReadyH.cons rfl (fun K hK => ?_) AllReadyH.nil)
            · rw [if_pos (by rfl)]
              go_simp
              (go_at_call 72; refine (HMR.out A' c' _ (HRD.out _ hbZ)).mono ?_; rintro e w3 ⟨G, blk, D, rfl, hM, hA, hG, hb3, hD, hsm⟩; have hbC : Below W2.heap.size W2 w3 := hbZ.trans (hb3.mono hbZ.size); have hdd : D p q = (d0, d1) := (hD p q hpn hqn).trans (by rw [HXX.out]; exact HD.out); have o1 := hM.cellO hpn; obtain ⟨v1, v2⟩ := hM.cells hpn hqn; rw [hdd] at v1 v2; dsimp only at v1 v2; have lG := hM.out.lt; have lp := (hM.row p hpn).lt; clear hM hA hD hsm hdd)
              (try go_wp2_with fail)
              refine hK.out _ _ (HSB3.out _ hbC) (fun _ => ?_)
              clear hK K
              (try simp only [Act.put, List.setIfInBounds_toArray, List.set_cons_zero, List.set_cons_succ])
              refine wpAnyH_take (i := 7) (v := ?_) rfl (by kernel_rfl) (by kernel_rfl) (by kernel_rfl) (fun _ _ _ h => h) (Or.inl ⟨by rfl, ?_⟩) (HSB3.out _ hbC) ?_
              rotate_left
              · (intro w hSw; (try dsimp only at hSw); go_simp <;> with_reducible rfl)
              (try simp only [Act.put, List.setIfInBounds_toArray, List.set_cons_zero, List.set_cons_succ])
              refine wpAnyH_ready (rs := [8, 13]) (by kernel_rfl) (by simp) ?_
              refine AllReadyH.cons rfl (fun K hK => ?_) (AllReadyH.cons rfl (fun K hK => ?_) AllReadyH.nil)
              · rw [if_pos (by rfl)]
                go_simp
                refine hK.out _ _ (HSB3.out _ hbC) (fun _ => ?_)
                clear hK K
                (try simp only [Act.put, List.setIfInBounds_toArray, List.set_cons_zero, List.set_cons_succ])
                refine wpAnyH_take (i := 11) (v := ?_) rfl (by kernel_rfl) (by kernel_rfl) (by kernel_rfl) (fun _ _ _ h => h) (Or.inl ⟨by rfl, ?_⟩) (HSB3.out _ hbC) ?_
                rotate_left
                · (intro w hSw; (try dsimp only at hSw); go_simp <;> with_reducible rfl)
                (try simp only [Act.put, List.setIfInBounds_toArray, List.set_cons_zero, List.set_cons_succ])
                refine wpAnyH_ready (rs := [12, 13]) (by kernel_rfl) (by simp) ?_
                refine AllReadyH.cons rfl (fun K hK => ?_) (AllReadyH.cons rfl (fun K hK => ?_) AllReadyH.nil)
                · rw [if_pos (by rfl)]
                  go_simp
                  refine hK.out _ _ (HSB3.out _ hbC) (fun _ => ?_)
                  clear hK K
                  (try simp only [Act.put, List.setIfInBounds_toArray, List.set_cons_zero, List.set_cons_succ])
                  refine wpAnyH_ready (rs := [13]) (by kernel_rfl) (by simp) ?_
                  refine AllReadyH.cons rfl (fun K hK => ?_) AllReadyH.nil
                  rw [if_pos (by rfl)]
                  go_simp
                  refine hK.out _ _ (HSB3.out _ (hbC.alloc hbC.size _)) (fun _ => ?_)
                  clear hK K
                  (try simp only [Act.put, List.setIfInBounds_toArray, List.set_cons_zero, List.set_cons_succ])
                  have kn := Bk.new w3 71 #[.int .i64 0, .bool false]
                  have n0 := (kn.cell 0).trans rfl
                  have n1 := (kn.cell 1).trans rfl
                  have nf0 := kn.frozen 0
                  have nf1 := kn.frozen 1
                  have nl := kn.lt
                  refine wpAnyH_ready (rs := [14]) (by kernel_rfl) (by simp) ?_
                  refine AllReadyH.cons rfl (fun K hK => ?_) AllReadyH.nil
                  rw [if_pos (by rfl)]
                  go_simp
                  refine hK.out _ _ (by first | exact HSB3.out _ (((hbC.alloc hbC.size _).setCell (p := ⟨w3.heap.size, 0, none⟩) (hbC.size) _).setCell (p := ⟨w3.heap.size, 1, none⟩) (hbC.size) _) | exact HSB3.out _ (hbC.alloc hbC.size _)) (fun _ => ?_)
                  clear hK K
                  (try simp only [Act.put, List.setIfInBounds_toArray, List.set_cons_zero, List.set_cons_succ])
                  refine wpAnyH_done (by kernel_rfl) ?_ _
                  (try simp only [Act.put, List.setIfInBounds_toArray, List.set_cons_zero, List.set_cons_succ])
                  have hz3 := hbC.size
                  go_wp2_with fail
                  go_meet
                  first | exact ⟨_, rfl, hz3, Bk.new w3 _ _, hbC.alloc hbC.size _⟩ | exact ⟨_, rfl, hz3, (kn.set 0 _).set 1 _, ((hbC.alloc hbC.size _).setCell (p := ⟨w3.heap.size, 0, none⟩) (hbC.size) _).setCell (p := ⟨w3.heap.size, 1, none⟩) (hbC.size) _⟩
                · rw [if_pos (by rfl)]
                  go_simp
                  refine hK.out _ _ (HSB3.out _ (hbC.alloc hbC.size _)) (fun _ => ?_)
                  clear hK K
                  (try simp only [Act.put, List.setIfInBounds_toArray, List.set_cons_zero, List.set_cons_succ])
                  refine wpAnyH_ready (rs := [12]) (by kernel_rfl) (by simp) ?_
                  refine AllReadyH.cons rfl (fun K hK => ?_) AllReadyH.nil
                  rw [if_pos (by rfl)]
                  go_simp
                  refine hK.out _ _ (HSB3.out _ (hbC.alloc hbC.size _)) (fun _ => ?_)
                  clear hK K
                  (try simp only [Act.put, List.setIfInBounds_toArray, List.set_cons_zero, List.set_cons_succ])
                  have kn := Bk.new w3 71 #[.int .i64 0, .bool false]
                  have n0 := (kn.cell 0).trans rfl
                  have n1 := (kn.cell 1).trans rfl
                  have nf0 := kn.frozen 0
                  have nf1 := kn.frozen 1
                  have nl := kn.lt
                  refine wpAnyH_ready (rs := [14]) (by kernel_rfl) (by simp) ?_
                  refine AllReadyH.cons rfl (fun K hK => ?_) AllReadyH.nil
                  rw [if_pos (by rfl)]
                  go_simp
                  refine hK.out _ _ (by first | exact HSB3.out _ (((hbC.alloc hbC.size _).setCell (p := ⟨w3.heap.size, 0, none⟩) (hbC.size) _).setCell (p := ⟨w3.heap.size, 1, none⟩) (hbC.size) _) | exact HSB3.out _ (hbC.alloc hbC.size _)) (fun _ => ?_)
                  clear hK K
                  (try simp only [Act.put, List.setIfInBounds_toArray, List.set_cons_zero, List.set_cons_succ])
                  refine wpAnyH_done (by kernel_rfl) ?_ _
                  (try simp only [Act.put, List.setIfInBounds_toArray, List.set_cons_zero, List.set_cons_succ])
                  have hz3 := hbC.size
                  go_wp2_with fail
                  go_meet
                  first | exact ⟨_, rfl, hz3, Bk.new w3 _ _, hbC.alloc hbC.size _⟩ | exact ⟨_, rfl, hz3, (kn.set 0 _).set 1 _, ((hbC.alloc hbC.size _).setCell (p := ⟨w3.heap.size, 0, none⟩) (hbC.size) _).setCell (p := ⟨w3.heap.size, 1, none⟩) (hbC.size) _⟩
              · rw [if_pos (by rfl)]
                go_simp
                refine hK.out _ _ (HSB3.out _ (hbC.alloc hbC.size _)) (fun _ => ?_)
                clear hK K
                (try simp only [Act.put, List.setIfInBounds_toArray, List.set_cons_zero, List.set_cons_succ])
                refine wpAnyH_ready (rs := [8]) (by kernel_rfl) (by simp) ?_
                refine AllReadyH.cons rfl (fun K hK => ?_) AllReadyH.nil
                rw [if_pos (by rfl)]
                go_simp
                refine hK.out _ _ (HSB3.out _ (hbC.alloc hbC.size _)) (fun _ => ?_)
                clear hK K
                (try simp only [Act.put, List.setIfInBounds_toArray, List.set_cons_zero, List.set_cons_succ])
                refine wpAnyH_take (i := 11) (v := ?_) rfl (by kernel_rfl) (by kernel_rfl) (by kernel_rfl) (fun _ _ _ h => h) (Or.inl ⟨by rfl, ?_⟩) (HSB3.out _ (hbC.alloc hbC.size _)) ?_
                rotate_left
                · (intro w hSw; (try dsimp only at hSw); go_simp <;> with_reducible rfl)
                (try simp only [Act.put, List.setIfInBounds_toArray, List.set_cons_zero, List.set_cons_succ])
                refine wpAnyH_ready (rs := [12]) (by kernel_rfl) (by simp) ?_
                refine AllReadyH.cons rfl (fun K hK => ?_) AllReadyH.nil
                rw [if_pos (by rfl)]
                go_simp
                refine hK.out _ _ (HSB3.out _ (hbC.alloc hbC.size _)) (fun _ => ?_)
                clear hK K
                (try simp only [Act.put, List.setIfInBounds_toArray, List.set_cons_zero, List.set_cons_succ])
                have kn := Bk.new w3 71 #[.int .i64 0, .bool false]
                have n0 := (kn.cell 0).trans rfl
                have n1 := (kn.cell 1).trans rfl
                have nf0 := kn.frozen 0
                have nf1 := kn.frozen 1
                have nl := kn.lt
                refine wpAnyH_ready (rs := [14]) (by kernel_rfl) (by simp) ?_
                refine AllReadyH.cons rfl (fun K hK => ?_) AllReadyH.nil
                rw [if_pos (by rfl)]
                go_simp
                refine hK.out _ _ (by first | exact HSB3.out _ (((hbC.alloc hbC.size _).setCell (p := ⟨w3.heap.size, 0, none⟩) (hbC.size) _).setCell (p := ⟨w3.heap.size, 1, none⟩) (hbC.size) _) | exact HSB3.out _ (hbC.alloc hbC.size _)) (fun _ => ?_)
                clear hK K
                (try simp only [Act.put, List.setIfInBounds_toArray, List.set_cons_zero, List.set_cons_succ])
                refine wpAnyH_done (by kernel_rfl) ?_ _
                (try simp only [Act.put, List.setIfInBounds_toArray, List.set_cons_zero, List.set_cons_succ])
                have hz3 := hbC.size
                go_wp2_with fail
                go_meet
                first | exact ⟨_, rfl, hz3, Bk.new w3 _ _, hbC.alloc hbC.size _⟩ | exact ⟨_, rfl, hz3, (kn.set 0 _).set 1 _, ((hbC.alloc hbC.size _).setCell (p := ⟨w3.heap.size, 0, none⟩) (hbC.size) _).setCell (p := ⟨w3.heap.size, 1, none⟩) (hbC.size) _⟩
            · rw [if_pos (by rfl)]
              go_simp
              refine hK.out _ _ (HSB3.out _ hbY) (fun _ => ?_)
              clear hK K
              (try simp only [Act.put, List.setIfInBounds_toArray, List.set_cons_zero, List.set_cons_succ])
              refine wpAnyH_ready (rs := [4]) (by kernel_rfl) (by simp) ?_
              refine AllReadyH.cons rfl (fun K hK => ?_) AllReadyH.nil
              rw [if_pos (by rfl)]
              go_simp
              (go_at_call 72; refine (HMR.out A' c' _ (HRD.out _ hbY)).mono ?_; rintro e w3 ⟨G, blk, D, rfl, hM, hA, hG, hb3, hD, hsm⟩; have hbC : Below W2.heap.size W2 w3 := hbY.trans (hb3.mono hbY.size); have hdd : D p q = (d0, d1) := (hD p q hpn hqn).trans (by rw [HXX.out]; exact HD.out); have o1 := hM.cellO hpn; obtain ⟨v1, v2⟩ := hM.cells hpn hqn; rw [hdd] at v1 v2; dsimp only at v1 v2; have lG := hM.out.lt; have lp := (hM.row p hpn).lt; clear hM hA hD hsm hdd; have kz3 := KZ.out.below hb3 KZ.out.lt; have z0 := (kz3.cell 0).trans rfl; have z1 := (kz3.cell 1).trans rfl; have zf0 := kz3.frozen 0; have zf1 := kz3.frozen 1; have lz := kz3.lt)
              (try go_wp2_with fail)
              refine hK.out _ _ (HSB3.out _ hbC) (fun _ => ?_)
              clear hK K
              (try simp only [Act.put, List.setIfInBounds_toArray, List.set_cons_zero, List.set_cons_succ])
              refine wpAnyH_take (i := 7) (v := ?_) rfl (by kernel_rfl) (by kernel_rfl) (by kernel_rfl) (fun _ _ _ h => h) (Or.inl ⟨by rfl, ?_⟩) (HSB3.out _ hbC) ?_
              rotate_left
              · (intro w hSw; (try dsimp only at hSw); go_simp <;> with_reducible rfl)
              (try simp only [Act.put, List.setIfInBounds_toArray, List.set_cons_zero, List.set_cons_succ])
              refine wpAnyH_ready (rs := [8]) (by kernel_rfl) (by simp) ?_
              refine AllReadyH.cons rfl (fun K hK => ?_) AllReadyH.nil
              rw [if_pos (by rfl)]
              go_simp
              refine hK.out _ _ (HSB3.out _ hbC) (fun _ => ?_)
              clear hK K
              (try simp only [Act.put, List.setIfInBounds_toArray, List.set_cons_zero, List.set_cons_succ])
              refine wpAnyH_take (i := 11) (v := ?_) rfl (by kernel_rfl) (by kernel_rfl) (by kernel_rfl) (fun _ _ _ h => h) (Or.inl ⟨by rfl, ?_⟩) (HSB3.out _ hbC) ?_
              rotate_left
              · (intro w hSw; (try dsimp only at hSw); go_simp <;> with_reducible rfl)
              (try simp only [Act.put, List.setIfInBounds_toArray, List.set_cons_zero, List.set_cons_succ])
              refine wpAnyH_ready (rs := [12]) (by kernel_rfl) (by simp) ?_
              refine AllReadyH.cons rfl (fun K hK => ?_) AllReadyH.nil
              rw [if_pos (by rfl)]
              go_simp
              refine hK.out _ _ (HSB3.out _ hbC) (fun _ => ?_)
              clear hK K
              (try simp only [Act.put, List.setIfInBounds_toArray, List.set_cons_zero, List.set_cons_succ])
              refine wpAnyH_ready (rs := [14]) (by kernel_rfl) (by simp) ?_
              refine AllReadyH.cons rfl (fun K hK => ?_) AllReadyH.nil
              rw [if_pos (by rfl)]
              go_simp
              refine hK.out _ _ (HSB3.out _ ((hbC.setCell (p := ⟨W2.heap.size, 0, none⟩) (Nat.le_refl _) _).setCell (p := ⟨W2.heap.size, 1, none⟩) (Nat.le_refl _) _)) (fun _ => ?_)
              clear hK K
              (try simp only [Act.put, List.setIfInBounds_toArray, List.set_cons_zero, List.set_cons_succ])
              refine wpAnyH_done (by kernel_rfl) ?_ _
              (try simp only [Act.put, List.setIfInBounds_toArray, List.set_cons_zero, List.set_cons_succ])
              have hz3 := hbC.size
              go_wp2_with fail
              go_meet
              exact ⟨_, rfl, Nat.le_refl _, (kz3.set 0 _).set 1 _, (hbC.setCell (p := ⟨W2.heap.size, 0, none⟩) (Nat.le_refl _) _).setCell (p := ⟨W2.heap.size, 1, none⟩) (Nat.le_refl _) _⟩
          case rest =>
            obtain ⟨xb, rfl, hxb, kF, hbx⟩ := hcut
            obtain ⟨hr5, hr6, k2, hB, kX, hrd⟩ := REL2.out
            obtain ⟨W3, hW3⟩ : ∃ W3, W3 = wc := ⟨_, rfl⟩
            subst hW3
            have gr5 := (hr5.below hbx (Nat.le_refl _)).more hbx.size
            have gr6 := (hr6.below hbx (Nat.le_refl _)).more hbx.size
            have g2 := k2.below hbx l3'
            have gX := kX.below hbx lX'
            have grd := (hrd.below hbx (Nat.le_refl _)).more hbx.size
            have gB := hB.trans (hbx.mono hB.size)
            have y0 := (kF.cell 0).trans rfl
            have y1 := (kF.cell 1).trans rfl
            have yl := kF.lt
            have x2 := (gX.cell 2).trans rfl
            have xl := gX.lt
            have hno : (d1 = false ∨ ¬ d0 ≤ bm) → Ln.ndK bs n (j + 1) = (cs, out) := fun h => by
              have h2 := HNX2.out.2
              refine h2 fun ⟨a, b⟩ => ?_
              rcases h with h | h
              · rw [h] at a; cases a
              · exact h b
            have hyes : d1 = true → d0 ≤ bm → Ln.ndK bs n (j + 1) = (Ln.kill cs i, out ++ [i]) := fun a b => HNX2.out.1 ⟨a, b⟩
            have HNO := Lib.hid hno
            have HYES := Lib.hid hyes
            have REL3 := Lib.hid (And.intro gr5 (And.intro gr6 (And.intro g2 (And.intro gB grd))))
            have hstay : ∀ W, Below W3.heap.size W3 W → Ln.ndK bs n (j + 1) = (cs, out) → ∃ (j' : Nat) (B5 : Option Addr) (d5 : Nat) (B6 : Option Addr) (d6 : Nat), j' ≤ bs.length ∧ Value.int .i64 ((i : Int) - 1) = .int .i64 ((bs.length : Int) - 1 - j') ∧ V5 = .slice B5 (Ln.alive (Ln.ndK bs n j').1).length d5 ∧ (Ln.alive (Ln.ndK bs n j').1).length ≤ d5 ∧ Value.slice A6 out.length c6 = .slice B6 (Ln.ndK bs n j').2.length d6 ∧
                Rd W W.heap.size 4 B5 (Ln.alive (Ln.ndK bs n j').1).length (bcells (Ln.alive (Ln.ndK bs n j').1)) ∧ Rd W W.heap.size 1 B6 (Ln.ndK bs n j').2.length (nlist (Ln.ndK bs n j').2.reverse) ∧ Bk W sb 24 #[.int .i64 (n : Int), .slice A bs.length c] ∧ Below w.heap.size w W := fun W hbW e => by
              obtain ⟨gr5, gr6, g2, gB, _⟩ := REL3.out
              refine ⟨j + 1, some ⟨b5, o5, none⟩, c5, A6, c6, by omega, by congr 1; omega, ?_, ?_, ?_, ?_, ?_, g2.below hbW g2.lt, gB.trans (hbW.mono gB.size)⟩
              · rw [e]; dsimp only; rw [HAC.out]; exact HV5.out.symm
              · rw [e]; dsimp only; rw [HAC.out]; exact hc5
              · rw [e]
              · rw [e]; dsimp only; rw [HAC.out]; exact (gr5.below hbW (Nat.le_refl _)).more hbW.size
              · rw [e]; exact (gr6.below hbW (Nat.le_refl _)).more hbW.size
            have HSTAY := Lib.hid hstay
            have hd1 : -100000000000 ≤ bm := by omega
            clear hr5 hr6 k2 hB kX hrd gr5 gr6 g2 gX grd gB kF hno hyes hstay REL2 hbx
            rcases d1 with _ | _
            · go_wp2_with fail
              go_roundw
              case rel => exact HSTAY.out _ (Below.refl _ _) (HNO.out (.inl (by simp)))
              case measure => first | (simp [intOf]; done) | (simp [intOf]; omega)
            · by_cases hle : d0 ≤ bm
              · have hlast := HYES.out (by simp) hle
                have HLAST := Lib.hid hlast
                obtain ⟨gr5, gr6, g2, gB, grd⟩ := REL3.out
                have hown0 : (W3.alloc (.cells #[.int .i64 (i : Int)] 3)).ownsRow W3.heap.size 3 1 (.slice (some ⟨W3.heap.size, 0, none⟩) 1 1) 1 [.int .i64 (i : Int)] := World.ownsRow_lit W3 #[.int .i64 (i : Int)] 1 (Nat.le_refl _) (by unfold maxLen; omega) rfl
                have hbA : Below W3.heap.size W3 (W3.alloc (.cells #[.int .i64 (i : Int)] 3)) := (Below.refl _ _).alloc (Nat.le_refl _) _
                have hrA := (gr6.below hbA (Nat.le_refl _)).more hbA.size
                have hoo : ∀ u ∈ nlist out.reverse, u.oneCell' = true := fun u hu => by
                  simp [nlist] at hu
                  obtain ⟨a, _, rfl⟩ := hu
                  rfl
                have REL4 := Lib.hid (And.intro g2 (And.intro gB grd))
                clear hlast gr5 gr6 g2 gB grd REL3 HSTAY HNO HYES
                go_wp2_with (at_builtin; refine wpList_append_rd rfl (.tmp 65) (.tmp 66) 25 rfl W3.heap.size 3 i0 _ 1 8 Try.underlying25 hi0 hz0 hz1 hz2 rfl (by omega) (.slice (some ⟨W3.heap.size, 0, none⟩) 1 1) 1 [.int .i64 (i : Int)] rfl hown0 A6 out.length c6 _ (nlist out.reverse) rfl hrA hoo (by unfold maxLen; omega) (by omega) (by simp) ?_; intro v7 w7 hown7 hg7 hat7; obtain ⟨A7, c7, rfl, hr7⟩ := own_read hown7)
                have hb7 := hbA.grown hg7 (by simp) (fun j e => (hown0.lt j e).1)
                go_roundw
                case rel =>
                  obtain ⟨g2, gB, grd⟩ := REL4.out
                  refine ⟨j + 1, A', c', A7, c7, by omega, by congr 1; omega, ?_, ?_, ?_, ?_, ?_, g2.below hb7 g2.lt, gB.trans (hb7.mono gB.size)⟩
                  · rw [HLAST.out]; dsimp only; rw [HRS.out]
                  · rw [HLAST.out]; dsimp only; rw [HRS.out]; exact hcc
                  · rw [HLAST.out]; dsimp only; rw [List.length_append, List.length_singleton, Nat.add_comm]
                  · rw [HLAST.out]; dsimp only; rw [HRS.out]; exact (grd.below hb7 (Nat.le_refl _)).more hb7.size
                  · rw [HLAST.out]; dsimp only
                    rw [List.length_append, List.length_singleton, Nat.add_comm, List.reverse_append]
                    exact hr7
                case measure => first | (simp [intOf]; done) | (simp [intOf]; omega)
              · go_wp2_with fail
                go_roundw
                case rel => exact HSTAY.out _ (Below.refl _ _) (HNO.out (.inr hle))
                case measure => first | (simp [intOf]; done) | (simp [intOf]; omega)
      · obtain rfl : j = bs.length := by omega
        have REL := Lib.hid (And.intro hr6 hB)
        clear hr5 hr6 k2 hB
        go_wp2_with fail
        go_ret2
        exact ⟨A6, c6, by rw [List.length_reverse]; rfl, by rw [List.length_reverse]; exact REL.out.1, REL.out.2⟩
  · rw [show Ln.ndF N bs = ([], Ln.soundF N bs []) from by rw [Ln.ndF, if_neg hs]]
    have hne : (Ln.soundF N bs [] != 0) = true := by simp [hs]
    have hcall := rpointed_any N A c bs none 0 [] _ hR1 hc (hP0 _) (by simp)
    obtain ⟨s, hss⟩ : ∃ s, Ln.soundF N bs [] = s := ⟨_, rfl⟩
    rw [hss] at hne hcall ⊢
    have HC := Lib.hid hcall
    clear hs hss hcall
    go_enter Try.func44, Try.ntmps44
    go_wp2_with fail
    refine HC.out.mono ?_
    rintro e w1 ⟨rfl, hb1⟩
    go_wp2_with fail
    go_ret2
    exact ⟨none, 0, rfl, Rd.nil _ _ _ _, hB0.trans (hb1.mono hB0.size)⟩

end Go.Proofs.Ytppfpdhgckghdaa
