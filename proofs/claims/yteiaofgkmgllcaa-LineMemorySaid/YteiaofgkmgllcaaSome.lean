/-
  The program's values; sound in two theorems; Some.
-/
import Derived.Test.YteiaofgkmgllcaaPoss
import Derived.Test.YteiaofgkmgllcaaMath
set_option linter.unusedVariables false
set_option linter.unusedSimpArgs false
namespace Go.Proofs.Yteiaofgkmgllcaa
open Go.RowKit

theorem made_ints (n : Nat) : madeCells #[.int .i64 0] n = av (Ln.zerosN n) := by
  apply Array.ext_getElem?
  intro i
  unfold madeCells
  by_cases h : i < n
  · rw [Array.getElem?_map, Array.getElem?_range, if_pos h, Option.map_some, av_at (by rw [Ln.zerosN_length]; exact h), gt_zerosN, show (#[Value.int .i64 0] : Array Value).size = 1 from rfl, Nat.mod_one]
    rfl
  · rw [Array.getElem?_eq_none (by simp; omega), Array.getElem?_eq_none (by rw [av_size, Ln.zerosN_length]; omega)]

theorem nlist_snoc (l : List Nat) (k : Nat) : nlist l ++ [.int .i64 (k : Int)] = nlist (l ++ [k]) := by simp [nlist]

theorem y1_next_some {row : List Int} {k N : Nat} (hk : k < N) (h : Ln.gt row k ≠ Ln.NONE) : (Ln.y1 row k ++ Ln.zerosN (N - k)).set k (Ln.gt row k) = Ln.y1 row (k + 1) ++ Ln.zerosN (N - (k + 1)) := by
  rw [Ln.y1_some h, show N - k = (N - (k + 1)) + 1 from by omega, Ln.zerosN, List.replicate_succ, List.set_append_right _ _ (by rw [Ln.y1_length]; exact Nat.le_refl _), Ln.y1_length, Nat.sub_self]
  simp [Ln.zerosN]
theorem y1_next_none {row : List Int} {k N : Nat} (hk : k < N) (h : Ln.gt row k = Ln.NONE) : Ln.y1 row k ++ Ln.zerosN (N - k) = Ln.y1 row (k + 1) ++ Ln.zerosN (N - (k + 1)) := by
  rw [Ln.y1_none h, show N - k = (N - (k + 1)) + 1 from by omega, Ln.zerosN, List.replicate_succ]
  simp [Ln.zerosN]
theorem grown_setCell (w : World) (p : Addr) (v : Value) : w.grownBy (w.setCell p v) (some p.block) :=
  ⟨rfl, rfl, rfl, by simp [World.setCell], fun k _ hk => Below.heap_setCell _ _ _ k (fun e => hk (by rw [e]))⟩
theorem own_off {w : World} {base : Nat} {v : Value} {n : Nat} {xs : List Value} (h : w.ownsRow base 3 1 v n xs) {g : Nat} (hg : g < base) : v.ownBlock = none ∨ v.ownBlock ≠ some g := by
  rcases hb : v.ownBlock with _ | k
  · exact .inl rfl
  · refine .inr fun e => ?_
    have := (h.lt k hb).1
    cases e
    omega

theorem own_rd {w : World} {base : Nat} {v : Value} {l : List Nat} (h : w.ownsRow base 3 1 v l.length (nlist l)) :
    ∃ A c, v = .slice A l.length c ∧ Rd w w.heap.size 1 A l.length (nlist l) := by
  rcases h.2 with ⟨rfl, h0⟩ | ⟨g, cap, cur, rfl, _, hg, _⟩
  · refine ⟨none, 0, by rw [h0], h.1, fun hn => absurd hn (by omega)⟩
  · refine ⟨_, _, rfl, h.1, fun hn => ⟨g, 0, rfl, (Array.getElem?_eq_some_iff.1 hg).1, fun j hj => ?_⟩⟩
    rw [Nat.zero_add]
    exact h.cellAt j hj

/-- Two slices that the call owns, apart: the second one is appended to. -/
theorem two_step {w w1 w2 : World} {base gg : Nat} {G O O' : Value} {n : Nat} {xs : List Value} (hG : w.ownsRow base 3 1 G n xs) (hap : G.ownBlock = none ∨ G.ownBlock ≠ O.ownBlock) (h0 : w.grownBy w1 none) (h1 : w1.grownBy w2 O.ownBlock)
    (hat : O.ownBlock = some gg ∨ w.heap.size ≤ gg) (hO : O'.ownBlock = some gg) : w2.ownsRow base 3 1 G n xs ∧ (G.ownBlock = none ∨ G.ownBlock ≠ O'.ownBlock) := by
  refine ⟨(hG.kept h0 (by rcases h : G.ownBlock with _ | g <;> simp)).kept h1 hap, ?_⟩
  rcases hb : G.ownBlock with _ | g
  · exact .inl rfl
  · refine .inr ?_
    rw [hO]
    rcases hat with e | e
    · rcases hap with h | h
      · rw [hb] at h
        cases h
      · rw [← hb, ← e]
        exact h
    · have := (hG.lt g hb).2
      simp only [ne_eq, Option.some.injEq]
      omega

theorem grown_below {w w' : World} (h : Below w.heap.size w w') : w.grownBy w' none := ⟨h.os, h.tape, h.output, h.size, fun k hk _ => h.block k hk⟩
theorem own_below {w w' : World} {base : Nat} {v : Value} {n : Nat} {xs : List Value} (h : w.ownsRow base 3 1 v n xs) (hb : Below w.heap.size w w') : w'.ownsRow base 3 1 v n xs :=
  h.kept (grown_below hb) (by rcases h : v.ownBlock with _ | g <;> simp)
theorem bk_rd {w : World} {g : Nat} {t : TypeId} {d : List Int} {n size : Nat} (h : Bk w g t (av d)) (hl : d.length = n * size) : Rd w w.heap.size size (some ⟨g, 0, none⟩) n (ints d) := by
  refine ⟨by rw [ints_length, hl], fun _ => ⟨g, 0, rfl, h.lt, fun j hj => ?_⟩⟩
  rw [Nat.zero_add, h.cell j, av_at (by omega), Ln.gt_eq (by omega)]
  simp [ints, hl, hj]

theorem apart_comm {a b : Option Nat} (h : a = none ∨ a ≠ b) : b = none ∨ b ≠ a := by
  rcases h with rfl | h
  · rcases b with _ | b
    · exact .inl rfl
    · exact .inr (by simp)
  · exact .inr (Ne.symm h)
theorem off_ne {w : World} {base : Nat} {v : Value} {n : Nat} {xs : List Value} (h : w.ownsRow base 3 1 v n xs) {g : Nat} (hg : g < base) : some g ≠ v.ownBlock := fun e => by
  have := (h.lt g e.symm).1
  omega

theorem Bk.grown {w w' : World} {g : Nat} {t : TypeId} {cs : Array Value} {row : Option Nat} (h : Bk w g t cs) (hg : w.grownBy w' row) (hne : some g ≠ row) : Bk w' g t cs := (hg.block g h.lt hne).trans h

set_option maxRecDepth 100000 in
set_option maxHeartbeats 2000000 in
theorem values_any {N : Nat} {bs : List Ln.Bd} (hok : Ln.Ok N bs) (B nb : Nat) (A : Option Addr) (c : Nat) (fr : List Value) (w : World) (hN : IsNet w B nb N bs A c fr) (hBw : B ≤ w.heap.size) :
    Calls Try.prog 52 #[.pointer (some ⟨nb, 0, none⟩)] w fun e w' => ∃ g, e = .returned (.slice (some ⟨g, 0, none⟩) N N) ∧ w.heap.size ≤ g ∧ Bk w' g 3 (av (Ln.valF bs N)) ∧ Below w.heap.size w w' := by
  obtain ⟨i0, hi0, hz0, hz1, hz2⟩ := info_parts info3
  have htop := hok.top
  have hnB := hN.lt
  have hnl := hN.blk.lt
  go_enter Try.func52, Try.ntmps52
  go_wp2_with (first
    | (go_at_call 45; refine (allDistances_any hok B nb A c fr _ hN hBw).mono ?_; rintro e w1 ⟨gd, rfl, hgd, kD, hb1⟩; have hN1 := hN.below hb1 hBw; have c0 := (hN1.blk.cell 0).trans (ncells_0 _ _ _); have hnl1 := hN1.blk.lt)
    | (refine wpList_make_exact _ rfl _ _ 25 rfl 3 i0 _ 1 8 Try.underlying25 hi0 hz0 hz1 hz2 N rfl rfl (by omega) (by omega) (av (Ln.zerosN N)) (by rw [Nat.mul_one]; exact made_ints _) ?_))
  have hB1 := hb1.alloc hb1.size (.cells (av (Ln.zerosN N)) 3)
  have kD1 := kD.alloc (.cells (av (Ln.zerosN N)) 3)
  have kY1 := Bk.new w1 3 (av (Ln.zerosN N))
  have hgdl := kD.lt
  have hw1 := hb1.size
  obtain ⟨gy, hgy⟩ : ∃ gy, w1.heap.size = gy := ⟨_, rfl⟩
  obtain ⟨W1, hW1⟩ : ∃ W1, w1.alloc (.cells (av (Ln.zerosN N)) 3) = W1 := ⟨_, rfl⟩
  have hz1' : gy + 1 ≤ W1.heap.size := by rw [← hW1, ← hgy]; simp
  rw [hgy] at kY1 hgdl hw1 ⊢
  rw [hW1] at hB1 kD1 kY1 ⊢
  clear hb1 kD hN1 c0 hnl1 hW1 hgy
  obtain ⟨D, hDD⟩ : ∃ D, Ln.adF bs N = D := ⟨_, rfl⟩
  obtain ⟨row, hrow⟩ : ∃ row, Ln.distF bs N 0 = row := ⟨_, rfl⟩
  have hDl := Ln.adF_length hok
  have hDt := Ln.adF_tm hok
  have hrt := (Ln.distF_small hok 0).2.tm (by omega)
  have hat0 : ∀ k, k < N → Ln.gt D k = Ln.gt row k := fun k hk => by
    have := Ln.adF_at hok (a := 0) (p := k) (by omega) (by omega)
    rw [Nat.zero_mul, Nat.zero_add] at this
    rw [← hDD, ← hrow]
    exact this
  have hvf : Ln.valF bs N = (Ln.valK D (Ln.y1 row N, Ln.gvl row N) (Ln.opn row N)).1 := by rw [Ln.valF, hDD, hrow]
  have HVF := Lib.hid hvf
  rw [hDD] at kD1 hDl hDt
  rw [hrow] at hrt
  have HDT := Lib.hid hDt
  have HRT := Lib.hid hrt
  have HAT := Lib.hid hat0
  have HDL := Lib.hid hDl
  clear hDD hrow hvf hDt hrt hat0 hDl
  go_loopw [5, 6, 19] (fun G O i wr => ∃ k : Nat, k ≤ N ∧ i = .int .i64 k ∧ wr.ownsRow (gy + 1) 3 1 G (Ln.gvl row k).length (nlist (Ln.gvl row k)) ∧ wr.ownsRow (gy + 1) 3 1 O (Ln.opn row k).length (nlist (Ln.opn row k)) ∧
      (G.ownBlock = none ∨ G.ownBlock ≠ O.ownBlock) ∧ Bk wr gd 89 (av D) ∧ Bk wr gy 3 (av (Ln.y1 row k ++ Ln.zerosN (N - k))) ∧ Below w.heap.size w wr)
    (fun _ _ i _ => N - (intOf i).toNat)
  case atStart => exact ⟨0, Nat.zero_le _, rfl, ⟨rfl, .inl ⟨rfl, rfl⟩⟩, ⟨rfl, .inl ⟨rfl, rfl⟩⟩, .inl rfl, kD1, kY1, hB1⟩
  case round =>
    clear kD1 kY1 hB1
    obtain ⟨k, hk, rfl, hG, hO, hap, kD, kY, hB⟩ := hrel
    have hkY := kY.lt
    have hkD := kD.lt
    have hBs := hB.size
    by_cases hkl : k < N
    · have hk0 : (0 : Int) ≤ (k : Int) := Int.natCast_nonneg _
      have hk1 : (k : Int) < N := by omega
      have hk2 : (k : Int) < 128 := by omega
      have hN0 : (0 : Int) < N := by omega
      have cD := (kD.cell k).trans (av_at (by rw [HDL.out]; omega))
      rw [HAT.out k hkl] at cD
      obtain ⟨d, hd⟩ : ∃ d, Ln.gt row k = d := ⟨_, rfl⟩
      rw [hd] at cD
      have hlG := Ln.gvl_length row k
      have hlO := Ln.opn_length row k
      have HD := Lib.hid hd
      clear hd
      rcases hyn : (d == 9223372036854775807) with _ | _
      · have hne : d ≠ Ln.NONE := by simpa [Ln.NONE] using hyn
        have HNE := Lib.hid hne
        clear hne
        have cY := (kY.cell k).trans (av_at (by rw [List.length_append, Ln.y1_length, Ln.zerosN_length]; omega))
        have fY := kY.frozen k
        have hG9 := hG.kept (grown_setCell wr ⟨gy, k, none⟩ (.int .i64 d)) (own_off hG (Nat.lt_succ_self _))
        have hO9 := hO.kept (grown_setCell wr ⟨gy, k, none⟩ (.int .i64 d)) (own_off hO (Nat.lt_succ_self _))
        have hnw9 := heap_alloc_new (wr.setCell ⟨gy, k, none⟩ (.int .i64 d)) (.cells #[.int .i64 (k : Int)] 3)
        rw [size_setCell] at hnw9
        have hs9 : (wr.setCell ⟨gy, k, none⟩ (.int .i64 d)).heap.size = wr.heap.size := size_setCell _ _ _
        go_wp2_with (at_builtin; refine wpList_append_lies _ rfl _ _ 25 rfl (gy + 1) 3 i0 _ 1 8 Try.underlying25 hi0 hz0 hz1 hz2 rfl (by omega) u5 _ _ rfl (hG9.alloc _) ⟨wr.heap.size, 0, none⟩ 1 1 [.int .i64 (k : Int)] rfl rfl (World.news_of_block (cs := #[.int .i64 (k : Int)]) (t := 3) (fr := (0, 0)) hnw9) (by simp [Value.oneCell']) (by omega) (by unfold maxLen; omega) (by omega) (by rw [World.size_alloc, hs9]; omega) (wr.heap.size + 1) (by rw [World.size_alloc, hs9]) ?_; intro gg cap w2 hown hgrow hat hlt2)
        have hne' : Ln.gt row k ≠ Ln.NONE := by rw [HD.out]; exact HNE.out
        have ts := two_step (O' := .slice (some ⟨gg, 0, none⟩) ((Ln.gvl row k).length + 1) cap) hO9 (apart_comm hap) (World.grownBy_alloc _ (.cells #[.int .i64 (k : Int)] 3) none) hgrow (hat.imp id (fun h => by rw [h, hs9]; omega)) rfl
        have kD2 := ((kD.far (p := ⟨gy, k, none⟩) (by simp; omega) (.int .i64 d)).alloc (.cells #[.int .i64 (k : Int)] 3)).grown hgrow (off_ne hG (by omega))
        have kY2 := ((kY.set k (.int .i64 d)).alloc (.cells #[.int .i64 (k : Int)] 3)).grown hgrow (off_ne hG (by omega))
        rw [av_set, ← HD.out, y1_next_some hkl hne'] at kY2
        have hB2 := ((hB.setCell (p := ⟨gy, k, none⟩) (by simp; omega) (.int .i64 d)).alloc (by rw [hs9]; omega) (.cells #[.int .i64 (k : Int)] 3)).grown hgrow (by rw [World.size_alloc, hs9]; omega) (fun j e => by have := (hG.lt j e).1; omega)
        have REL := Lib.hid (And.intro hown (And.intro ts (And.intro kD2 (And.intro kY2 hB2))))
        clear hown ts kD2 kY2 hB2 hgrow hnw9 hG9 hO9
        go_roundw
        case rel =>
          refine ⟨k + 1, by omega, by go_num, ?_, ?_, apart_comm REL.out.2.1.2, REL.out.2.2.1, REL.out.2.2.2.1, REL.out.2.2.2.2⟩
          · rw [Ln.gvl_some hne', List.length_append, ← nlist_snoc]
            exact REL.out.1
          · rw [Ln.opn_some hne']
            exact REL.out.2.1.1
        case measure => simp [intOf]; omega
      · have hne : d = Ln.NONE := by simpa [Ln.NONE] using hyn
        have HNE := Lib.hid hne
        clear hne
        go_wp2_with (at_builtin; refine wpList_append_lies _ rfl _ _ 25 rfl (gy + 1) 3 i0 _ 1 8 Try.underlying25 hi0 hz0 hz1 hz2 rfl (by omega) u6 _ _ rfl (hO.alloc _) ⟨wr.heap.size, 0, none⟩ 1 1 [.int .i64 (k : Int)] rfl rfl (World.news_of_block (cs := #[.int .i64 (k : Int)]) (t := 3) (fr := (0, 0)) (heap_alloc_new _ _)) (by simp [Value.oneCell']) (by omega) (by unfold maxLen; omega) (by omega) (by simp; omega) (wr.heap.size + 1) (by simp) ?_; intro gg cap w2 hown hgrow hat hlt2)
        have hne' : Ln.gt row k = Ln.NONE := by rw [HD.out]; exact HNE.out
        have ts := two_step (O' := .slice (some ⟨gg, 0, none⟩) ((Ln.opn row k).length + 1) cap) hG hap (World.grownBy_alloc _ (.cells #[.int .i64 (k : Int)] 3) none) hgrow (hat.imp id (fun h => by rw [h]; omega)) rfl
        have kD2 := (kD.alloc (.cells #[.int .i64 (k : Int)] 3)).grown hgrow (off_ne hO (by omega))
        have kY2 := (kY.alloc (.cells #[.int .i64 (k : Int)] 3)).grown hgrow (off_ne hO (by omega))
        rw [y1_next_none hkl hne'] at kY2
        have hB2 := (hB.alloc hBs (.cells #[.int .i64 (k : Int)] 3)).grown hgrow (by rw [World.size_alloc]; omega) (fun j e => by have := (hO.lt j e).1; omega)
        have REL := Lib.hid (And.intro hown (And.intro ts (And.intro kD2 (And.intro kY2 hB2))))
        clear hown ts kD2 kY2 hB2 hgrow
        go_roundw
        case rel =>
          refine ⟨k + 1, by omega, by go_num, ?_, ?_, REL.out.2.1.2, REL.out.2.2.1, REL.out.2.2.2.1, REL.out.2.2.2.2⟩
          · rw [Ln.gvl_none hne']
            exact REL.out.2.1.1
          · rw [Ln.opn_none hne', List.length_append, ← nlist_snoc]
            exact REL.out.1
        case measure => simp [intOf]; omega
    · obtain rfl : k = N := by omega
      rw [Nat.sub_self, show Ln.zerosN 0 = [] from rfl, List.append_nil] at kY
      have hyc := Ln.y1_cl HRT.out (by omega) k
      have hyl := Ln.y1_length row k
      obtain ⟨y0, hy0⟩ : ∃ y0, Ln.y1 row k = y0 := ⟨_, rfl⟩
      obtain ⟨g0, hg0⟩ : ∃ g0, Ln.gvl row k = g0 := ⟨_, rfl⟩
      obtain ⟨o0, ho0⟩ : ∃ o0, Ln.opn row k = o0 := ⟨_, rfl⟩
      have hgm : ∀ g ∈ g0, g < k := fun g hg => Ln.gvl_lt (by rw [hg0]; exact hg)
      have hom : ∀ g ∈ o0, g < k := fun g hg => Ln.opn_lt (by rw [ho0]; exact hg)
      have hgl := Ln.gvl_length row k
      have hol := Ln.opn_length row k
      have hvf := HVF.out
      rw [hy0, hg0, ho0] at hvf
      rw [hy0] at kY hyc hyl
      rw [hg0] at hG hgl
      rw [ho0] at hO hol
      have HVF2 := Lib.hid hvf
      have HYC := Lib.hid hyc
      have HGM := Lib.hid hgm
      have HOM := Lib.hid hom
      clear hvf hyc hgm hom hy0 hg0 ho0 HVF HRT HAT
      obtain ⟨Ao, co, hv6, _⟩ := own_rd hO
      subst hv6
      go_wp2_with fail
      go_loopw [5, 47] (fun G i W => ∃ j : Nat, j ≤ o0.length ∧ i = .int .i64 j ∧ W.ownsRow (gy + 1) 3 1 G (Ln.valK D (y0, g0) (o0.take j)).2.length (nlist (Ln.valK D (y0, g0) (o0.take j)).2) ∧ W.ownsRow (gy + 1) 3 1 (.slice Ao o0.length co) o0.length (nlist o0) ∧
          (G.ownBlock = none ∨ G.ownBlock ≠ (Value.slice Ao o0.length co).ownBlock) ∧ Bk W gd 89 (av D) ∧ Bk W gy 3 (av (Ln.valK D (y0, g0) (o0.take j)).1) ∧ Below w.heap.size w W)
        (fun _ i _ => o0.length - (intOf i).toNat)
      case atStart => exact ⟨0, Nat.zero_le _, rfl, hG, hO, hap, kD, kY, hB⟩
      case round =>
        clear hG hO hap kD kY hB
        obtain ⟨j, hj, rfl, hG, hO, hap, kD, kY, hB⟩ := hrel
        have hkY := kY.lt
        have hkD := kD.lt
        have hBs := hB.size
        by_cases hjl : j < o0.length
        · obtain ⟨A', c', hv5, _⟩ := own_rd hG
          subst hv5
          obtain ⟨_, _, hv6, hRO⟩ := own_rd hO
          simp only [Value.slice.injEq, true_and] at hv6
          obtain ⟨rfl, rfl⟩ := hv6
          obtain ⟨_, _, hv5, hRG⟩ := own_rd hG
          simp only [Value.slice.injEq, true_and] at hv5
          obtain ⟨rfl, rfl⟩ := hv5
          obtain ⟨bo, oo, rfl, hbo, eo⟩ := hRO.nat hjl
          have hpn := HOM.out _ (List.getElem_mem hjl)
          have hstep := Ln.valK_step D (y0, g0) hjl
          have hcl := Ln.valK_cl (s := (y0, g0)) HYC.out HDT.out (by omega) (by omega) (o0.take j)
          have hvl := Ln.valK_length D (y0, g0) (o0.take j)
          have hvm := Ln.valK_mem (D := D) (s := (y0, g0)) (l := o0.take j) HGM.out (fun g hg => HOM.out g (List.mem_of_mem_take hg))
          have htl : (o0.take j).length = j := by rw [List.length_take]; omega
          rw [htl] at hcl hvl
          obtain ⟨p, hp⟩ : ∃ p, o0[j] = p := ⟨_, rfl⟩
          rw [hp] at eo hpn hstep
          clear hp
          obtain ⟨s, hs⟩ : ∃ s, Ln.valK D (y0, g0) (o0.take j) = s := ⟨_, rfl⟩
          simp only [hs] at hG kY hRG hap hstep hcl hvl hvm
          rw [hs]
          have hsl : s.1.length = k := hvl.1.trans hyl
          have hsg : s.2.length ≤ 256 := by have := hvl.2; omega
          have hp0 : (0 : Int) ≤ (p : Int) := Int.natCast_nonneg _
          have hp1 : (p : Int) < k := by omega
          have hj0 : (0 : Int) ≤ (j : Int) := Int.natCast_nonneg _
          have hj1 : (j : Int) < o0.length := by omega
          have hposs := possible_any (some ⟨gd, 0, none⟩) k k D (some ⟨gy, 0, none⟩) k s.1 A' c' s.2 p wr (bk_rd kD HDL.out) (fun i => (HDT.out i).imp id (fun h => ⟨by omega, by omega⟩)) (bk_rd kY (by omega)) (fun i => by have := hcl i; omega) hRG (fun g hg => ⟨hvm g hg, by rw [hsl]; exact hvm g hg⟩) hpn (by omega) (by omega) (by omega)
          rw [hsl] at hposs
          have cY := av_at (d := s.1) (k := p) (by omega)
          obtain ⟨x, hx⟩ : ∃ x, Ln.possF D s.1 p s.2 = x := ⟨_, rfl⟩
          rw [hx] at hposs
          have hst2 : Ln.valS D s p = (s.1.set p (Ln.lfzF x.1 x.2), s.2 ++ [p]) := by rw [Ln.valS, hx]
          rw [hst2] at hstep
          obtain ⟨v, hv⟩ : ∃ v, Ln.lfzF x.1 x.2 = v := ⟨_, rfl⟩
          rw [hv] at hstep
          have HSTEP := Lib.hid hstep
          have HPOSS := Lib.hid hposs
          have HVV := Lib.hid hv
          have HS := Lib.hid hs
          have HVM := Lib.hid hvm
          have HCL := Lib.hid hcl
          clear hstep hposs hv hs hvm hcl hx hst2 hvl
          go_wp2_with (first
            | (go_at_call 79; refine HPOSS.out.mono ?_; rintro e w2 ⟨rfl, hb2⟩)
            | (go_at_call 78; refine (leastFromZero_any _ _ _).mono ?_; rw [HVV.out]; rintro e w3 ⟨rfl, hb3⟩; have zz2 := hb2.size; have zz3 := hb3.size; have hb23 := hb2.trans (hb3.mono zz2); have kY3 := kY.below hb23 hkY; have cY3 := (kY3.cell p).trans cY; have fY3 := kY3.frozen p; have hG9 := (own_below hG hb23).kept (grown_setCell w3 ⟨gy, p, none⟩ (.int .i64 v)) (own_off hG (Nat.lt_succ_self _)); have hO9 := (own_below hO hb23).kept (grown_setCell w3 ⟨gy, p, none⟩ (.int .i64 v)) (own_off hO (Nat.lt_succ_self _)); have hs9 := size_setCell w3 ⟨gy, p, none⟩ (.int .i64 v); have hnw9 := heap_alloc_new (w3.setCell ⟨gy, p, none⟩ (.int .i64 v)) (.cells #[.int .i64 (p : Int)] 3); rw [size_setCell] at hnw9)
            | (at_builtin; refine wpList_append_lies _ rfl _ _ 25 rfl (gy + 1) 3 i0 _ 1 8 Try.underlying25 hi0 hz0 hz1 hz2 rfl (by omega) (.slice A' s.2.length c') _ _ rfl (hG9.alloc _) ⟨w3.heap.size, 0, none⟩ 1 1 [.int .i64 (p : Int)] rfl rfl (World.news_of_block (cs := #[.int .i64 (p : Int)]) (t := 3) (fr := (0, 0)) hnw9) (by simp [Value.oneCell']) (by omega) (by unfold maxLen; omega) (by omega) (by rw [World.size_alloc, hs9]; omega) (w3.heap.size + 1) (by rw [World.size_alloc, hs9]) ?_; intro gg cap w4 hown hgrow hat hlt2))
          have ts := two_step (O' := .slice (some ⟨gg, 0, none⟩) (s.2.length + 1) cap) hO9 (apart_comm hap) (World.grownBy_alloc _ (.cells #[.int .i64 (p : Int)] 3) none) hgrow (hat.imp id (fun h => by rw [h, hs9]; omega)) rfl
          have kD2 := (((kD.below hb23 hkD).far (p := ⟨gy, p, none⟩) (by simp; omega) (.int .i64 v)).alloc (.cells #[.int .i64 (p : Int)] 3)).grown hgrow (off_ne hG (by omega))
          have kY2 := ((kY3.set p (.int .i64 v)).alloc (.cells #[.int .i64 (p : Int)] 3)).grown hgrow (off_ne hG (by omega))
          rw [av_set] at kY2
          have hB2 := (((hB.trans (hb23.mono hBs)).setCell (p := ⟨gy, p, none⟩) (by simp; omega) (.int .i64 v)).alloc (by rw [hs9]; omega) (.cells #[.int .i64 (p : Int)] 3)).grown hgrow (by rw [World.size_alloc, hs9]; omega) (fun j e => by have := (hG.lt j e).1; omega)
          have REL := Lib.hid (And.intro hown (And.intro ts (And.intro kD2 (And.intro kY2 hB2))))
          clear hown ts kD2 kY2 hB2 hgrow hnw9 hG9 hO9
          go_roundw
          case rel =>
            refine ⟨j + 1, by omega, by go_num, ?_, REL.out.2.1.1, apart_comm REL.out.2.1.2, REL.out.2.2.1, ?_, REL.out.2.2.2.2⟩
            · rw [HSTEP.out, List.length_append, ← nlist_snoc]
              exact REL.out.1
            · rw [HSTEP.out]
              exact REL.out.2.2.2.1
          case measure => simp [intOf]; omega
        · obtain rfl : j = o0.length := by omega
          rw [List.take_length] at kY
          have HVF3 := HVF2.out
          go_wp2_with fail
          go_ret
          exact ⟨gy, rfl, hw1, by rw [HVF2.out]; exact kY, hB⟩

end Go.Proofs.Yteiaofgkmgllcaa

namespace Go.Proofs.Yteiaofgkmgllcaa
open Go.RowKit

section
variable (N : Int) (A : Option Addr) (c : Nat) (bs : List Ln.Bd) (A2 : Option Addr) (c2 : Nat) (ps : List Int) (w : World)

theorem sound_err (hR : Rd w w.heap.size 4 A bs.length (bcells bs)) (hc : Ln.Lv bs)
    (hP : Rd w w.heap.size 1 A2 ps.length (ints ps)) (hps : ps.length ≤ 1000000) (hs : Ln.soundF N bs ps ≠ 0) :
    Calls Try.prog 44 #[.agg #[.int .i64 N, .slice A bs.length c], .slice A2 ps.length c2] w fun e w' => e = .returned (.tuple #[.pointer none, .int .i64 (Ln.soundF N bs ps)]) ∧ Below w.heap.size w w' := by
  by_cases hcp : Ln.cpF N bs ps = 0
  · have hco : Ln.consF bs N.toNat = false := by
      rcases h : Ln.consF bs N.toNat with _ | _
      · rfl
      · exact absurd (by rw [Ln.soundF, if_pos hcp, if_pos h]) hs
    rw [show Ln.soundF N bs ps = 10 from by rw [Ln.soundF, if_pos hcp, if_neg (by rw [hco]; simp)]]
    exact sound_circle N A c bs A2 c2 ps w hR hc hP hps hcp hco
  · rw [show Ln.soundF N bs ps = Ln.cpF N bs ps from by rw [Ln.soundF, if_neg hcp]]
    exact sound_bad N A c bs A2 c2 ps w hR hc hP hps hcp

theorem soundF_zero {N : Int} {bs : List Ln.Bd} {ps : List Int} (hs : Ln.soundF N bs ps = 0) : Ln.cpF N bs ps = 0 ∧ Ln.consF bs N.toNat = true := by
  have hcp : Ln.cpF N bs ps = 0 := by
    unfold Ln.soundF at hs
    split at hs
    · assumption
    · exact hs
  refine ⟨hcp, ?_⟩
  rcases h : Ln.consF bs N.toNat with _ | _
  · rw [Ln.soundF, if_pos hcp, if_neg (by rw [h]; simp)] at hs
    cases hs
  · rfl

theorem sound_fine (hR : Rd w w.heap.size 4 A bs.length (bcells bs)) (hc : Ln.Lv bs)
    (hP : Rd w w.heap.size 1 A2 ps.length (ints ps)) (hps : ps.length ≤ 1000000) (hs : Ln.soundF N bs ps = 0) :
    Calls Try.prog 44 #[.agg #[.int .i64 N, .slice A bs.length c], .slice A2 ps.length c2] w fun e w' => ∃ nb fr, e = .returned (.tuple #[.pointer (some ⟨nb, 0, none⟩), .int .i64 0]) ∧ IsNet w' w'.heap.size nb N.toNat bs A c fr ∧ Below w.heap.size w w' :=
  sound_ok N A c bs A2 c2 ps w hR hc hP hps (soundF_zero hs).1 (soundF_zero hs).2
end

section
variable (N : Int) (A : Option Addr) (c : Nat) (bs : List Ln.Bd) (w : World)

set_option maxRecDepth 100000 in
set_option maxHeartbeats 1000000 in
theorem some_new (hR : Rd w w.heap.size 4 A bs.length (bcells bs)) (hc : Ln.Lv bs) :
    Calls Try.prog 21 #[.agg #[.int .i64 N, .slice A bs.length c]] w fun e w' => ∃ A' c', e = .returned (.tuple #[.slice A' (Ln.someF N bs).1.length c', .int .i64 (Ln.someF N bs).2]) ∧ Rd w' w'.heap.size 1 A' (Ln.someF N bs).1.length (ints (Ln.someF N bs).1) ∧ (∀ a, A' = some a → w.heap.size ≤ a.block) ∧ Below w.heap.size w w' := by
  have hB0 : Below w.heap.size w (w.alloc (.cells #[.int .i64 N, .slice A bs.length c] 24)) := (Below.refl _ _).alloc (Nat.le_refl _) _
  have hR1 := (hR.below hB0 (Nat.le_refl _)).more hB0.size
  have hP1 := Rd.nil (w.alloc (.cells #[.int .i64 N, .slice A bs.length c] 24)) (w.alloc (.cells #[.int .i64 N, .slice A bs.length c] 24)).heap.size 1 none
  by_cases hs : Ln.soundF N bs [] = 0
  · obtain ⟨hok, hN⟩ := Ln.ok_of_check (Ln.cpF_zero (soundF_zero hs).1)
    rw [show Ln.someF N bs = (Ln.valF bs N.toNat, 0) from by rw [Ln.someF, if_pos hs]]
    have hvl := Ln.valF_length bs N.toNat
    have HS := Lib.hid hs
    have HVL := Lib.hid hvl
    clear hs hvl
    go_enter Try.func21, Try.ntmps21
    go_wp2_with (first
      | (go_at_call 44; refine (sound_fine N A c bs none 0 [] _ hR1 hc hP1 (by simp) HS.out).mono ?_; rintro e w1 ⟨nb, fr, rfl, hNt, hb1⟩)
      | (go_at_call 52; refine (values_any hok _ nb A c fr _ hNt (Nat.le_refl _)).mono ?_; rintro e w2 ⟨g, rfl, hg, kV, hb2⟩))
    go_ret2
    have hvl := HVL.out
    refine ⟨some ⟨g, 0, none⟩, N.toNat, ?_, ?_, (fun a e => by cases e; have h1 := hB0.size; have h2 := hb1.size; dsimp only at hg ⊢; omega), (hB0.trans (hb1.mono hB0.size)).trans (hb2.mono (Nat.le_trans hB0.size hb1.size))⟩
    · rw [hvl]
      rfl
    · exact bk_rd kV (by omega)
  · rw [show Ln.someF N bs = ([], Ln.soundF N bs []) from by rw [Ln.someF, if_neg hs]]
    have hne : (Ln.soundF N bs [] != 0) = true := by simp [hs]
    have HS := Lib.hid hs
    clear hs
    go_enter Try.func21, Try.ntmps21
    go_wp2_with (go_at_call 44; refine (sound_err N A c bs none 0 [] _ hR1 hc hP1 (by simp) HS.out).mono ?_; rintro e w1 ⟨rfl, hb1⟩)
    go_ret2
    exact ⟨none, 0, rfl, Rd.nil _ _ _ _, (fun a e => by cases e), hB0.trans (hb1.mono hB0.size)⟩
theorem some_any (hR : Rd w w.heap.size 4 A bs.length (bcells bs)) (hc : Ln.Lv bs) :
    Calls Try.prog 21 #[.agg #[.int .i64 N, .slice A bs.length c]] w fun e w' => ∃ A' c', e = .returned (.tuple #[.slice A' (Ln.someF N bs).1.length c', .int .i64 (Ln.someF N bs).2]) ∧ Rd w' w'.heap.size 1 A' (Ln.someF N bs).1.length (ints (Ln.someF N bs).1) ∧ Below w.heap.size w w' :=
  (some_new N A c bs w hR hc).mono fun _ _ ⟨A', c', e, h, _, hb⟩ => ⟨A', c', e, h, hb⟩
end

end Go.Proofs.Yteiaofgkmgllcaa

