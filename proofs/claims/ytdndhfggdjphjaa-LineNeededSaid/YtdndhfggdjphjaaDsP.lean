/-
  Distances.
-/
import Derived.Test.YtdndhfggdjphjaaDsM
import Derived.Test.YtdndhfggdjphjaaBetw
import Derived.Test.YtdndhfggdjphjaaSome
set_option linter.unusedVariables false
set_option linter.unusedSimpArgs false
namespace Go.Proofs.Ytdndhfggdjphjaa
open Go.RowKit

set_option maxRecDepth 100000 in
set_option maxHeartbeats 2000000 in
theorem ldistances_ok (N : Int) (A : Option Addr) (c : Nat) (bs : List Ln.Bd) (a : Int) (w : World) (hR : Rd w w.heap.size 4 A bs.length (bcells bs)) (hc : Ln.Lv bs) (hs : Ln.soundF N bs [a] = 0) :
    Calls Try.prog 75 #[.agg #[.int .i64 N, .slice A bs.length c], .int .i64 a] w fun e w' => ∃ A1 c1 A2 c2, e = .returned (.tuple #[.slice A1 (Ln.dsS N bs a N.toNat).length c1, .slice A2 (Ln.dsI N bs a N.toNat).length c2, .int .i64 0]) ∧
      Rd w' w'.heap.size 1 A1 (Ln.dsS N bs a N.toNat).length (ints (Ln.dsS N bs a N.toNat)) ∧ Rd w' w'.heap.size 1 A2 (Ln.dsI N bs a N.toNat).length (flags (Ln.dsI N bs a N.toNat)) ∧ Below w.heap.size w w' := by
  obtain ⟨i0, hi0, hz0, hz1, hz2⟩ := info_parts info3
  obtain ⟨i1, hi1, hy0, hy1, hy2⟩ := info_parts info4
  have hB0 : Below w.heap.size w ((w.alloc (.cells #[.int .i64 N, .slice A bs.length c] 24)).alloc (.cells #[.int .i64 a] 3)) := ((Below.refl _ _).alloc (Nat.le_refl _) _).alloc (by simp) _
  have hR1 := (hR.below hB0 (Nat.le_refl _)).more hB0.size
  have hP1 := one_rd w (.cells #[.int .i64 N, .slice A bs.length c] 24) a
  have k0 := (Bk.new w 24 #[.int .i64 N, .slice A bs.length c]).alloc (.cells #[.int .i64 a] 3)
  obtain ⟨hcp, hco, hck⟩ := Ln.sound_zero hs
  obtain ⟨ha0, ha1⟩ := Ln.pts_of hcp (p := a) (by simp)
  obtain ⟨hok, hNt⟩ := Ln.ok_of_check hck
  have htop := hok.top
  obtain ⟨n, hn⟩ : ∃ n, N.toNat = n := ⟨_, rfl⟩
  rw [hn] at hok hNt htop hco
  subst hNt
  obtain ⟨a', rfl⟩ : ∃ a' : Nat, a = a' := ⟨a.toNat, by omega⟩
  have ha' : a' < n := by omega
  rw [Ln.dsS_y1, Ln.dsI_f1, hn]
  obtain ⟨row, hrow⟩ : ∃ row, Ln.distF bs n a' = row := ⟨_, rfl⟩
  have hrl := (Ln.distF_small hok a').1
  have hdi := fun B nb A c fr w h1 h2 => distances_any hok B nb A c fr a' ha' w h1 h2
  rw [hrow] at hrl
  simp only [hrow] at hdi ⊢
  have HCP := Lib.hid hcp
  have HCO := Lib.hid hco
  have HDI := Lib.hid hdi
  have HRL := Lib.hid hrl
  clear hs hcp hco hck hdi hrl hrow
  go_enter Try.func75, Try.ntmps75
  go_wp2_with fail
  refine (sound_ok (n : Int) A c bs (some ⟨w.heap.size + 1, 0, none⟩) 1 [(a' : Int)] _ hR1 hc hP1 (by simp) HCP.out (by simpa using HCO.out)).mono ?_
  rintro e w1 ⟨nb, fr, rfl, hNt, hb1⟩
  rw [hn] at hNt
  have k1 := k0.below hb1 (by simp; omega)
  have hB1 := hB0.trans (hb1.mono hB0.size)
  have c0 := k1.cell 0
  simp only [List.getElem?_toArray, List.getElem?_cons_zero, List.getElem?_cons_succ] at c0
  have kl1 := k1.lt
  clear k0 hb1 hB0 hR1 hP1
  go_wp2_with (first
    | (refine wpList_make_exact _ rfl _ _ 34 rfl 3 i0 _ 1 8 Try.underlying34 hi0 hz0 hz1 hz2 n rfl rfl (by omega) (by omega) (av (Ln.zerosN n)) (by rw [Nat.mul_one]; exact made_ints _) ?_)
    | (refine wpList_make_exact _ rfl _ _ 112 rfl 4 i1 _ 1 1 Try.underlying112 hi1 hy0 hy1 hy2 n rfl rfl (by omega) (by omega) (bv (Ln.falses n)) (by rw [Nat.mul_one]; exact made_flags _) ?_))
  have hB2 := (hB1.alloc hB1.size (.cells (av (Ln.zerosN n)) 3)).alloc (by have := hB1.size; simp; omega) (.cells (bv (Ln.falses n)) 4)
  have k2 := (k1.alloc (.cells (av (Ln.zerosN n)) 3)).alloc (.cells (bv (Ln.falses n)) 4)
  have kL := (Bk.new w1 3 (av (Ln.zerosN n))).alloc (.cells (bv (Ln.falses n)) 4)
  have kI := Bk.new (w1.alloc (.cells (av (Ln.zerosN n)) 3)) 4 (bv (Ln.falses n))
  rw [World.size_alloc] at kI
  have hbb : Below w1.heap.size w1 ((w1.alloc (.cells (av (Ln.zerosN n)) 3)).alloc (.cells (bv (Ln.falses n)) 4)) := ((Below.refl _ _).alloc (Nat.le_refl _) _).alloc (by simp) _
  have hN2 := hNt.below hbb (Nat.le_refl _)
  have hsz : w1.heap.size ≤ ((w1.alloc (.cells (av (Ln.zerosN n)) 3)).alloc (.cells (bv (Ln.falses n)) 4)).heap.size := hbb.size
  obtain ⟨L, hL⟩ : ∃ L, w1.heap.size = L := ⟨_, rfl⟩
  obtain ⟨W, hW⟩ : ∃ W, (w1.alloc (.cells (av (Ln.zerosN n)) 3)).alloc (.cells (bv (Ln.falses n)) 4) = W := ⟨_, rfl⟩
  rw [hL] at kL kI kl1 hN2 hsz ⊢
  rw [hW] at hB2 k2 kL kI hN2 hsz ⊢
  clear hW hbb hB1 k1 c0 hNt
  refine (HDI.out L nb A c fr W hN2 (by omega)).mono ?_
  rintro e w4 ⟨rfl, hb4⟩
  have k4 := (k2.below hb4 k2.lt).alloc (.cells Try.zeroCells77 77)
  have kL4 := (kL.below hb4 kL.lt).alloc (.cells Try.zeroCells77 77)
  have kI4 := (kI.below hb4 kI.lt).alloc (.cells Try.zeroCells77 77)
  have hB4 := hB2.trans (hb4.mono hB2.size)
  have z1 := (k2.below hb4 k2.lt).lt
  have z2 := (kL.below hb4 kL.lt).lt
  have z3 := (kI.below hb4 kI.lt).lt
  have k5 := k4.row_far (k := w4.heap.size) (by omega) (av row)
  have kL5 := kL4.row_far (k := w4.heap.size) (by omega) (av row)
  have kI5 := kI4.row_far (k := w4.heap.size) (by omega) (av row)
  have kD5 := (Bk.new w4 77 Try.zeroCells77).row (av row)
  have hB5 := (Bk.new w4 77 Try.zeroCells77).below_set (t := 77) hB4.size (av row) (hB4.alloc hB4.size _)
  have REL5 := Lib.hid (And.intro k5 (And.intro kL5 (And.intro kI5 (And.intro kD5 hB5))))
  clear k4 kL4 kI4 hB4 k2 kL kI hb4 hB2 k5 kL5 kI5 kD5 hB5
  go_wp2_with (refine wpList_store_row rfl 77 (.tmp 11) (.tmp 31) rfl w4.heap.size _ rfl rfl 77 _ (Bk.new w4 _ _) (av_len94 HRL.out) (by rw [zero94]; exact av_same Ln.zeros_length HRL.out) (av_one _) ?_)
  obtain ⟨k5, kL5, kI5, kD5, hB5⟩ := REL5.out
  clear REL5
  obtain ⟨d, hd⟩ : ∃ d, w4.heap.size = d := ⟨_, rfl⟩
  obtain ⟨W5, hW5⟩ : ∃ W5, (w4.alloc (.cells Try.zeroCells77 77)).setRow d (av row) = W5 := ⟨_, rfl⟩
  rw [hd] at k5 kL5 kI5 kD5 hB5 z1 z2 z3 ⊢
  rw [hW5] at k5 kL5 kI5 kD5 hB5 ⊢
  clear hW5 hd
  go_loopw [34] (fun i wr => ∃ k : Nat, k ≤ n ∧ i = .int .i64 k ∧ Bk wr w.heap.size 24 #[.int .i64 (n : Int), .slice A bs.length c] ∧ Bk wr L 3 (av (Ln.y1 row k ++ Ln.zerosN (n - k))) ∧
      Bk wr (L + 1) 4 (bv (Ln.f1 row k ++ Ln.falses (n - k))) ∧ Bk wr d 77 (av row) ∧ Below w.heap.size w wr)
    (fun i _ => n - (intOf i).toNat)
  case atStart => exact ⟨0, Nat.zero_le _, rfl, k5, kL5, kI5, kD5, hB5⟩
  case round =>
    clear k5 kL5 kI5 kD5 hB5
    obtain ⟨k, hk, rfl, kk, kL, kI, kD, hB⟩ := hrel
    have l1 := kL.lt
    have l2 := kI.lt
    have l3 := kD.lt
    by_cases hkl : k < n
    · have hk0 : (0 : Int) ≤ (k : Int) := Int.natCast_nonneg _
      have hk1 : (k : Int) < n := by omega
      have hk2 : (k : Int) < 128 := by omega
      have cD := (kD.cell k).trans (av_at (by rw [HRL.out]; omega))
      obtain ⟨x, hx⟩ : ∃ x, Ln.gt row k = x := ⟨_, rfl⟩
      rw [hx] at cD
      have HX := Lib.hid hx
      clear hx
      rcases hyn : (x != 9223372036854775807) with _ | _
      · have hne : x = Ln.NONE := by simpa [Ln.NONE] using hyn
        have HNE := Lib.hid hne
        clear hne
        have REL := Lib.hid (And.intro kk (And.intro kL (And.intro kI (And.intro kD hB))))
        clear kk kL kI kD hB
        go_wp2_with fail
        go_roundw
        case rel =>
          obtain ⟨kk, kL, kI, kD, hB⟩ := REL.out
          rw [y1_next_none hkl (HX.out.trans HNE.out)] at kL
          rw [Ln.f1_next_none hkl (HX.out.trans HNE.out)] at kI
          exact ⟨k + 1, by omega, by go_num, kk, kL, kI, kD, hB⟩
        case measure => simp [intOf]; omega
      · have hne : x ≠ Ln.NONE := by simpa [Ln.NONE] using hyn
        have HNE := Lib.hid hne
        clear hne
        have cL := (kL.cell k).trans (av_at (by rw [List.length_append, Ln.y1_length, Ln.zerosN_length]; omega))
        have fL := kL.frozen k
        have hil : k < (Ln.f1 row k ++ Ln.falses (n - k)).length := by rw [List.length_append, Ln.f1_length]; simp [Ln.falses]; omega
        have cI := (kI.cell k).trans (bv_at hil)
        have fI := kI.frozen k
        have q1 := (kk.far (p := ⟨L, k, none⟩) (by simp; omega) (.int .i64 x)).far (p := ⟨L + 1, k, none⟩) (by simp; omega) (.bool true)
        have q2 := (kL.set k (.int .i64 x)).far (p := ⟨L + 1, k, none⟩) (by simp) (.bool true)
        have q3 := (kI.far (p := ⟨L, k, none⟩) (by simp) (.int .i64 x)).set k (.bool true)
        have q4 := (kD.far (p := ⟨L, k, none⟩) (by simp; omega) (.int .i64 x)).far (p := ⟨L + 1, k, none⟩) (by simp; omega) (.bool true)
        have q5 := (hB.setCell (p := ⟨L, k, none⟩) (by simp; omega) (.int .i64 x)).setCell (p := ⟨L + 1, k, none⟩) (by simp; omega) (.bool true)
        have REL := Lib.hid (And.intro q1 (And.intro q2 (And.intro q3 (And.intro q4 q5))))
        obtain ⟨y0, hy0⟩ : ∃ y0, Ln.gt (Ln.y1 row k ++ Ln.zerosN (n - k)) k = y0 := ⟨_, rfl⟩
        rw [hy0] at cL
        obtain ⟨b0, hb0⟩ : ∃ b0, (Ln.f1 row k ++ Ln.falses (n - k))[k] = b0 := ⟨_, rfl⟩
        rw [hb0] at cI
        clear kk kL kI kD hB q1 q2 q3 q4 q5 hy0 hb0 hil
        go_wp2_with fail
        go_roundw
        case rel =>
          obtain ⟨kk, kL, kI, kD, hB⟩ := REL.out
          have hne' : Ln.gt row k ≠ Ln.NONE := by rw [HX.out]; exact HNE.out
          rw [av_set, ← HX.out, y1_next_some hkl hne'] at kL
          rw [bv_set, Ln.f1_next_some hkl hne'] at kI
          exact ⟨k + 1, by omega, by go_num, HX.out ▸ kk, HX.out ▸ kL, HX.out ▸ kI, HX.out ▸ kD, HX.out ▸ hB⟩
        case measure => simp [intOf]; omega
    · obtain rfl : k = n := by omega
      rw [Nat.sub_self, show Ln.zerosN 0 = [] from rfl, List.append_nil] at kL
      rw [Nat.sub_self, show Ln.falses 0 = [] from rfl, List.append_nil] at kI
      have REL := Lib.hid (And.intro kL (And.intro kI hB))
      clear kL kI kD hB kk
      go_wp2_with fail
      go_ret3
      obtain ⟨kL, kI, hB⟩ := REL.out
      refine ⟨some ⟨L, 0, none⟩, k, some ⟨L + 1, 0, none⟩, k, ?_, ?_, bk_flags kI, hB⟩
      · rw [Ln.y1_length, Ln.f1_length]; rfl
      · exact bk_rd kL (by omega)

set_option maxRecDepth 100000 in
set_option maxHeartbeats 1000000 in
theorem ldistances_any (N : Int) (A : Option Addr) (c : Nat) (bs : List Ln.Bd) (a : Int) (w : World) (hR : Rd w w.heap.size 4 A bs.length (bcells bs)) (hc : Ln.Lv bs) :
    Calls Try.prog 75 #[.agg #[.int .i64 N, .slice A bs.length c], .int .i64 a] w fun e w' => ∃ A1 c1 A2 c2, e = .returned (.tuple #[.slice A1 (Ln.dsF N bs a).1.length c1, .slice A2 (Ln.dsF N bs a).2.1.length c2, .int .i64 (Ln.dsF N bs a).2.2]) ∧
      Rd w' w'.heap.size 1 A1 (Ln.dsF N bs a).1.length (ints (Ln.dsF N bs a).1) ∧ Rd w' w'.heap.size 1 A2 (Ln.dsF N bs a).2.1.length (flags (Ln.dsF N bs a).2.1) ∧ Below w.heap.size w w' := by
  by_cases hs : Ln.soundF N bs [a] = 0
  · rw [show Ln.dsF N bs a = (Ln.dsS N bs a N.toNat, Ln.dsI N bs a N.toNat, 0) from by rw [Ln.dsF, if_pos hs]]
    exact ldistances_ok N A c bs a w hR hc hs
  · rw [show Ln.dsF N bs a = ([], [], Ln.soundF N bs [a]) from by rw [Ln.dsF, if_neg hs]]
    have hB0 : Below w.heap.size w ((w.alloc (.cells #[.int .i64 N, .slice A bs.length c] 24)).alloc (.cells #[.int .i64 a] 3)) := ((Below.refl _ _).alloc (Nat.le_refl _) _).alloc (by simp) _
    have hR1 := (hR.below hB0 (Nat.le_refl _)).more hB0.size
    have hP1 := one_rd w (.cells #[.int .i64 N, .slice A bs.length c] 24) a
    have hne : (Ln.soundF N bs [a] != 0) = true := by simp [hs]
    have hcall := sound_err N A c bs (some ⟨w.heap.size + 1, 0, none⟩) 1 [a] _ hR1 hc hP1 (by simp) hs
    obtain ⟨s, hss⟩ : ∃ s, Ln.soundF N bs [a] = s := ⟨_, rfl⟩
    rw [hss] at hne hcall ⊢
    have HC := Lib.hid hcall
    clear hs hss hcall
    go_enter Try.func75, Try.ntmps75
    go_wp2_with fail
    refine HC.out.mono ?_
    rintro e w1 ⟨rfl, hb1⟩
    go_wp2_with fail
    go_ret3
    exact ⟨none, 0, none, 0, rfl, Rd.nil _ _ _ _, Rd.nil _ _ _ _, hB0.trans (hb1.mono hB0.size)⟩

end Go.Proofs.Ytdndhfggdjphjaa
