/-
  Rigid.
-/
import Derived.Test.YteiaofgkmgllcaaRigM
import Derived.Test.YteiaofgkmgllcaaBetw
import Derived.Test.YteiaofgkmgllcaaPots
import Derived.Test.YteiaofgkmgllcaaSome
set_option linter.unusedVariables false
set_option linter.unusedSimpArgs false
namespace Go.Proofs.Yteiaofgkmgllcaa
open Go.RowKit Go.Shelf

theorem zeroPb : Try.zeroCells84 = pb (fun _ => false) := by kernel_rfl

set_option maxRecDepth 100000 in
set_option maxHeartbeats 4000000 in
theorem rigid_any (N : Int) (A : Option Addr) (c : Nat) (bs : List Ln.Bd) (w : World) (hR : Rd w w.heap.size 4 A bs.length (bcells bs)) (hc : Ln.Lv bs) :
    Calls Try.prog 16 #[.agg #[.int .i64 N, .slice A bs.length c]] w fun e w' => ∃ V, e = .returned (.tuple #[V, .int .i64 (Ln.rgF N bs).2]) ∧ LL w' V (Ln.rgF N bs).1 ∧ Below w.heap.size w w' := by
  obtain ⟨i0, hi0, hz0, hz1, hz2⟩ := info_parts info3
  obtain ⟨i1, hi1, hy0, hy1, hy2⟩ := info_parts infoL
  have hB0 : Below w.heap.size w (w.alloc (.cells #[.int .i64 N, .slice A bs.length c] 24)) := (Below.refl _ _).alloc (Nat.le_refl _) _
  have hR1 := (hR.below hB0 (Nat.le_refl _)).more hB0.size
  have k0 := Bk.new w 24 #[.int .i64 N, .slice A bs.length c]
  have hP0 : ∀ w : World, Rd w w.heap.size 1 none ([] : List Int).length (ints []) := fun w => Rd.nil _ _ _ _
  by_cases hs : Ln.soundF N bs [] = 0
  · obtain ⟨hcp, hco, hck⟩ := Ln.sound_zero hs
    obtain ⟨hok, hNt⟩ := Ln.ok_of_check hck
    have htop := hok.top
    have hpos := hok.pos
    have hrg : Ln.rgF N bs = ((Ln.rgK bs N.toNat N.toNat).1, 0) := by rw [Ln.rgF, if_pos hs]
    rw [hrg]
    obtain ⟨n, hn⟩ : ∃ n, N.toNat = n := ⟨_, rfl⟩
    rw [hn] at hok hNt htop hpos ⊢
    subst hNt
    have hDl := Ln.adF_length hok
    have hDt := Ln.adF_tm hok
    have hat := fun p q (hp : p < n) (hq : q < n) => Ln.adF_at hok (a := p) (p := q) hp (by omega)
    have had := fun B nb A c fr w h1 h2 => allDistances_any hok B nb A c fr w h1 h2
    obtain ⟨D, hD⟩ : ∃ D, Ln.adF bs n = D := ⟨_, rfl⟩
    rw [hD] at hDl hDt hat
    simp only [hD] at had
    have HS := Lib.hid hs
    have HAD := Lib.hid had
    have HDL := Lib.hid hDl
    have HDT := Lib.hid hDt
    have HAT := Lib.hid hat
    clear hs hcp hco hck hrg hDl hDt hat had hD hok
    go_enter Try.func16, Try.ntmps16
    go_wp2_with fail
    refine (sound_fine (n : Int) A c bs none 0 [] _ hR1 hc (hP0 _) (by simp) HS.out).mono ?_
    rintro e w1 ⟨nb, fr, rfl, hNt, hb1⟩
    rw [hn] at hNt
    have k1 := k0.below hb1 (by simp)
    have hB1 := hB0.trans (hb1.mono hB0.size)
    go_wp2_with fail
    refine (HAD.out _ nb A c fr _ hNt (Nat.le_refl _)).mono ?_
    rintro e w2 ⟨gd, rfl, hgd, kD, hb2⟩
    have k2 := k1.below hb2 k1.lt
    have hB2 := hB1.trans (hb2.mono hB1.size)
    go_wp2_with fail
    refine (comparisons_any _).mono ?_
    rintro e w3 ⟨mb, rfl, hmb, hm, hb3⟩
    have k3 := k2.below hb3 k2.lt
    have kD3 := kD.below hb3 kD.lt
    have hB3 := hB2.trans (hb3.mono hB2.size)
    have lk := hm.look.2.2
    have c0 := (k3.cell 0).trans rfl
    have cl := k3.lt
    have kP : Bk (w3.alloc (.cells Try.zeroCells84 84)) w3.heap.size 84 (pb (fun _ => false)) := by
      have h := Bk.new w3 84 Try.zeroCells84
      rw [zeroPb] at h ⊢
      exact h
    have k4 := k3.alloc (.cells Try.zeroCells84 84)
    have kD4 := kD3.alloc (.cells Try.zeroCells84 84)
    have hB4 := hB3.alloc hB3.size (.cells Try.zeroCells84 84)
    have hl1 := kD3.lt
    have hl2 := k3.lt
    have REL := Lib.hid (And.intro kP (And.intro k4 (And.intro kD4 hB4)))
    have hwl := hB3.size
    clear kP k4 kD4 hB4 kD3 k3 kD k2 k1 k0 hB3 hB2 hB1 hB0 hb1 hb2 hb3 hNt hR1 hm
    go_wp2_with fail
    obtain ⟨kP, k4, kD4, hB4⟩ := REL.out
    obtain ⟨PB, hPB⟩ : ∃ PB, w3.heap.size = PB := ⟨_, rfl⟩
    obtain ⟨W4, hW4⟩ : ∃ W4, w3.alloc (.cells Try.zeroCells84 84) = W4 := ⟨_, rfl⟩
    rw [hPB] at kP hl1 hl2 hwl cl ⊢
    rw [hW4] at kP k4 kD4 hB4 ⊢
    clear REL hPB hW4 c0 lk hgd hmb hR
    obtain ⟨sb, hsb⟩ : ∃ sb, w.heap.size = sb := ⟨_, rfl⟩
    rw [hsb] at k4 hl2 cl ⊢
    have HSB := Lib.hid hsb
    clear hsb
    go_loopw [8, 10, 27] (fun C X i wr => ∃ (k : Nat) (vs : List Value), k ≤ n ∧ i = .int .i64 k ∧ Cls wr (PB + 1) C (Ln.rgK bs n k).1 vs ∧ Bk wr PB 84 (pb (Ln.rgK bs n k).2) ∧ Bk wr sb 24 #[.int .i64 (n : Int), .slice A bs.length c] ∧ Bk wr gd 89 (av D) ∧ Below w.heap.size w wr)
      (fun _ _ i _ => n - (intOf i).toNat)
    case atStart => exact ⟨0, [], Nat.zero_le _, rfl, Cls.nil _ _, kP, k4, kD4, hB4⟩
    case round =>
      clear kP k4 kD4 hB4
      obtain ⟨k, vs, hk, rfl, hC, kP, k4, kD, hB⟩ := hrel
      have c0 := (k4.cell 0).trans rfl
      have lP := kP.lt
      have ls := k4.lt
      have lD := kD.lt
      by_cases hkl : k < n
      · have hk0 : (0 : Int) ≤ (k : Int) := Int.natCast_nonneg _
        have hk1 : (k : Int) < n := by omega
        have hk2 : (k : Int) < 128 := by omega
        have cP := (kP.cell k).trans (pb_at (by omega))
        rcases hpl : (Ln.rgK bs n k).2 k with _ | _
        · rw [hpl] at cP
          have hnew := Ln.rgK_new hpl
          have hkl2 := Ln.rgK_length bs n k
          obtain ⟨st, hst⟩ : ∃ st, Ln.rgK bs n k = st := ⟨_, rfl⟩
          rw [hst] at hC kP hnew hkl2
          obtain ⟨L, P⟩ := st
          dsimp only at hC kP hnew hkl2
          have HNEW := Lib.hid hnew
          clear hnew hpl hst
          -- The class, in memory from here on.
          have hown0 : (wr.alloc (.cells #[.int .i64 (k : Int)] 3)).ownsRow wr.heap.size 3 1 (.slice (some ⟨wr.heap.size, 0, none⟩) 1 1) 1 [.int .i64 (k : Int)] := World.ownsRow_lit wr #[.int .i64 (k : Int)] 1 (Nat.le_refl _) (by unfold maxLen; omega) rfl
          have hg0 : wr.grownBy (wr.alloc (.cells #[.int .i64 (k : Int)] 3)) (some PB) := World.grownBy_alloc wr _ _
          have REL := Lib.hid (And.intro hC (And.intro kP (And.intro k4 (And.intro kD (And.intro hB (And.intro hown0 (And.intro (kP.alloc (.cells #[.int .i64 (k : Int)] 3)) hg0)))))))
          clear hC kP k4 kD hB hown0 hg0
          go_wp2_with fail
          obtain ⟨hC, kP0, k4, kD, hB, hown0, kP, hg0⟩ := REL.out
          obtain ⟨H, hH⟩ : ∃ H, wr.heap.size = H := ⟨_, rfl⟩
          obtain ⟨W5, hW5⟩ : ∃ W5, wr.alloc (.cells #[.int .i64 (k : Int)] 3) = W5 := ⟨_, rfl⟩
          rw [hH] at hown0 ⊢
          rw [hW5] at hown0 kP hg0 ⊢
          clear REL hW5 cP c0 kP0
          obtain ⟨W0, hW0⟩ : ∃ W0, W0 = wr := ⟨_, rfl⟩
          subst hW0
          have HH := Lib.hid hH
          clear hH
          go_loopw [11, 12] (fun K i wq => ∃ b : Nat, k + 1 ≤ b ∧ b ≤ n ∧ i = .int .i64 b ∧ wq.ownsRow H 3 1 K (k :: Ln.mbr bs n k b).length (nlist (k :: Ln.mbr bs n k b)) ∧ W0.grownBy wq (some PB) ∧ Bk wq PB 84 (pb (Ln.plc bs n P k b)))
            (fun _ i _ => n - (intOf i).toNat)
          case atStart =>
            refine ⟨k + 1, Nat.le_refl _, by omega, by simp, ?_, hg0, ?_⟩
            · rw [Ln.mbr_start]; exact hown0
            · rw [Ln.plc_start]; exact kP
          case round =>
            clear hown0 kP hg0
            obtain ⟨b, hb1, hb2, rfl, hK, hg, kP⟩ := hrel
            have hsz := hg.size
            have hW0 := HH.out
            have k4' := k4.grown hg (by simp; omega)
            have kD' := kD.grown hg (by simp; omega)
            have c0 := (k4'.cell 0).trans rfl
            have lP' := kP.lt
            have lD' := kD'.lt
            have ls' := k4'.lt
            by_cases hbl : b < n
            · have hb0 : (0 : Int) ≤ (b : Int) := Int.natCast_nonneg _
              have hbn : (b : Int) < n := by omega
              have hb8 : (b : Int) < 128 := by omega
              have d1 := (kD'.cell (b * 128 + k)).trans (av_at (by rw [HDL.out]; omega))
              have d2 := (kD'.cell (k * 128 + b)).trans (av_at (by rw [HDL.out]; omega))
              have t1 := HDT.out (b * 128 + k)
              have t2 := HDT.out (k * 128 + b)
              have e1 := HAT.out b k hbl hkl
              have e2 := HAT.out k b hkl hbl
              have hq : Ln.meet bs n k b = Ln.meetsF (Ln.lowF 0 (Ln.gt D (b * 128 + k))) (Ln.highF 0 (Ln.gt D (k * 128 + b))) := by rw [e1, e2]; rfl
              obtain ⟨x1, hx1⟩ : ∃ x, Ln.gt D (b * 128 + k) = x := ⟨_, rfl⟩
              obtain ⟨x2, hx2⟩ : ∃ x, Ln.gt D (k * 128 + b) = x := ⟨_, rfl⟩
              rw [hx1] at d1 t1 hq
              rw [hx2] at d2 t2 hq
              obtain ⟨q, hqq⟩ : ∃ q, Ln.meet bs n k b = q := ⟨_, rfl⟩
              rw [hqq] at hq
              have T1 := Lib.hid (t1.imp id (fun h => ⟨by omega, by omega⟩) : x1 = Ln.NONE ∨ (-100000000000000000 ≤ x1 ∧ x1 ≤ 100000000000000000))
              have T2 := Lib.hid (t2.imp id (fun h => ⟨by omega, by omega⟩) : x2 = Ln.NONE ∨ (-100000000000000000 ≤ x2 ∧ x2 ≤ 100000000000000000))
              have HQ := Lib.hid hq
              have HQQ := Lib.hid hqq
              have hml := Ln.mbr_length bs n k b
              have REL := Lib.hid (And.intro hK (And.intro hg (And.intro kP (And.intro k4' kD'))))
              clear hx1 hx2 t1 t2 e1 e2 hq hqq hK hg kP k4' kD'
              go_upto_region 16 with fail
              go_cut [58] (fun s58 wx => s58 = .bool q ∧ Below wr.heap.size wr wx)
              case first =>
                have hSB : ∀ W, Below wr.heap.size wr W → W.cell? ⟨gd, b * 128 + k, none⟩ = some (.int .i64 x1) ∧ W.cell? ⟨gd, k * 128 + b, none⟩ = some (.int .i64 x2) := fun W hb =>
                  ⟨(hb.cell (p := ⟨gd, b * 128 + k, none⟩) lD').trans d1, (hb.cell (p := ⟨gd, k * 128 + b, none⟩) lD').trans d2⟩
                have HSB2 := Lib.hid hSB
                have hbC : Below wr.heap.size wr wr.drew := (Below.refl _ _).drew
                clear hSB
                go_region_held3 (fun w' => w'.cell? ⟨gd, b * 128 + k, none⟩ = some (.int .i64 x1) ∧ w'.cell? ⟨gd, k * 128 + b, none⟩ = some (.int .i64 x2))
                  (first | (with_reducible exact HSB2.out _ hbC) | ((try dsimp only); with_reducible exact HSB2.out _ hbC) | go_keep)
                  (first
                    | (go_at_call 47; refine (lowEnd_any 0 x1 ⟨by omega, by omega⟩ T1.out _).mono ?_; rintro e wa ⟨rfl, hba⟩; have hbC := hbC.trans (hba.mono hbC.size))
                    | (go_at_call 48; refine (highEnd_any 0 x2 ⟨by omega, by omega⟩ T2.out _).mono ?_; rintro e wa ⟨rfl, hba⟩; have hbC := hbC.trans (hba.mono hbC.size))
                    | (go_at_call 73; refine (meets_any (Ln.lowF 0 x1) (Ln.highF 0 x2) _).mono ?_; rintro e wa ⟨rfl, hba⟩; have hbC := hbC.trans (hba.mono hbC.size)))
                all_goals
                  go_wp2_with fail
                  go_meet
                  exact ⟨by rw [HQ.out], hbC⟩
              case rest =>
                obtain ⟨rfl, hbx⟩ := hcut
                obtain ⟨hK, hg, kP, k4', kD'⟩ := REL.out
                have hK2 := own_below hK hbx
                have hg2 := grown_new hg (grown_below hbx) (fun g e => by cases e)
                have kP2 := kP.below hbx lP'
                have hx := hbx.size
                obtain ⟨W6, hW6⟩ : ∃ W6, W6 = wc := ⟨_, rfl⟩
                subst hW6
                have c0 := (k4'.below hbx ls').cell 0
                have lP2 := kP2.lt
                clear k4' kD' hK hg kP d1 d2 REL
                rcases q with _ | _
                · have REL := Lib.hid (And.intro hK2 (And.intro hg2 kP2))
                  clear hK2 hg2 kP2
                  go_wp2_with fail
                  go_roundw
                  case rel =>
                    obtain ⟨hK, hg, kP⟩ := REL.out
                    refine ⟨b + 1, by omega, by omega, by go_num, ?_, hg, ?_⟩
                    · rw [Ln.mbr_miss HQQ.out]; exact hK
                    · rw [Ln.plc_miss HQQ.out]; exact kP
                  case measure => simp [intOf]; omega
                · obtain ⟨m, hm⟩ : ∃ m, (k :: Ln.mbr bs n k b).length = m := ⟨_, rfl⟩
                  rw [hm] at hK2
                  have hm2 : m ≤ n + 1 := by rw [← hm, List.length_cons]; omega
                  have HM := Lib.hid hm
                  clear hm
                  go_wp2_with (at_builtin; refine wpList_app1 rfl _ _ 25 rfl 3 i0 _ 8 Try.underlying25 hi0 hz0 hz1 hz2 rfl H u11 m _ (.int .i64 (b : Int)) W6 rfl hK2 rfl rfl (by unfold maxLen; omega) (by omega) (by omega) ?_; intro g1 cap1 w7 hS7 hg7 hat7 hlt7; have kP7 := kP2.grown hg7 (fun e => by have := (hK2.lt _ e.symm).1; omega); have cP7 := (kP7.cell b).trans (pb_at (by omega)); have fP7 := kP7.frozen b; have lP7 := kP7.lt)
                  have hS8 := hS7.kept (grown_setCell w7 ⟨PB, b, none⟩ (.bool true)) (own_offN hS7 (show PB < H by have := HH.out; omega))
                  have hg8 := (grown_new hg2 hg7 (fun g e => by have := (hK2.lt g e).1; have := HH.out; omega)).trans (grown_setCell w7 ⟨PB, b, none⟩ (.bool true))
                  have kP8 := kP7.set b (.bool true)
                  have REL := Lib.hid (And.intro hS8 (And.intro hg8 kP8))
                  clear hS7 hg7 kP7 hS8 hg8 kP8 hK2 hg2 kP2 cP7 fP7 c0
                  go_roundw
                  case rel =>
                    obtain ⟨hK, hg, kP⟩ := REL.out
                    refine ⟨b + 1, by omega, by omega, by go_num, ?_, hg, ?_⟩
                    · rw [Ln.mbr_hit (by omega) HQQ.out, ← List.cons_append, List.length_append, HM.out, ← nlist_snoc]
                      exact hK
                    · rw [Ln.plc_hit (by omega) HQQ.out, ← pb_set]; exact kP
                  case measure => simp [intOf]; omega
            · obtain rfl : b = n := by omega
              obtain ⟨A', c', rfl, hrd⟩ := own_read hK
              have hC2 := hC.keep hg (Nat.lt_succ_self _)
              have hlt : ∀ a, A' = some a → H ≤ a.block ∧ a.block < wr.heap.size := fun a e => by
                subst e
                exact hK.lt a.block rfl
              have hcl : ∀ a, A' = some a → PB + 1 ≤ a.block ∧ u8.ownBlock ≠ some a.block ∧ a.block < wr.heap.size := fun a e => by
                obtain ⟨x, y⟩ := hlt a e
                refine ⟨by omega, fun e2 => ?_, y⟩
                have := (hC.own.lt _ e2).2
                have := HH.out
                omega
              have hB2 := hB.grown hg (by exact hB.size) (fun j e => by cases e; rw [HSB.out]; omega)
              have hvl : vs.length = L.length := by have := hC.own.1; omega
              obtain ⟨cl0, hcl0⟩ : ∃ l, k :: Ln.mbr bs b k b = l := ⟨_, rfl⟩
              obtain ⟨P2, hP2⟩ : ∃ P2, Ln.plc bs b P k b = P2 := ⟨_, rfl⟩
              rw [hcl0] at hrd ⊢
              rw [hP2] at kP
              have HCL := Lib.hid hcl0
              have HP2 := Lib.hid hP2
              have HADD := Lib.hid (And.intro hC2 (And.intro hrd (And.intro hcl (And.intro hB2 (And.intro kP (And.intro k4' kD'))))))
              have hown := hC2.own
              clear hC2 hrd hcl hB2 kP k4' kD' hK hg hlt hcl0 hP2 hC k4 kD hB
              go_wp2_with (at_builtin; refine wpList_app1 rfl _ _ 36 rfl 25 i1 _ 24 Try.underlying36 hi1 hy0 hy1 hy2 rfl (PB + 1) u8 L.length vs (.slice A' cl0.length c') wr rfl hown rfl rfl (by unfold maxLen; omega) (by omega) (by omega) ?_; intro g1 cap1 w7 hS7 hg7 hat7 hlt7)
              obtain ⟨hC2, hrd, hcl, hB2, kP, k4, kD⟩ := HADD.out
              have hadd := hC2.add hrd hcl hS7 hg7 hat7
              have hoff : ∀ {g : Nat}, g < PB + 1 → some g ≠ u8.ownBlock := fun {g} h e => by have := (hC2.own.lt _ e.symm).1; omega
              have REL := Lib.hid (And.intro hadd (And.intro (kP.grown hg7 (hoff (by omega))) (And.intro (k4.grown hg7 (hoff (by omega))) (And.intro (kD.grown hg7 (hoff (by omega))) (hB2.grown hg7 hB2.size (fun j e => by have := (hC2.own.lt j e).1; rw [HSB.out]; omega))))))
              clear hadd hC2 hrd hcl hB2 kP k4 kD hS7 hg7 hown
              go_roundw
              case rel =>
                obtain ⟨hC, kP, k4, kD, hB⟩ := REL.out
                refine ⟨k + 1, vs ++ [.slice A' cl0.length c'], by omega, by go_num, ?_, ?_, k4, kD, hB⟩
                · rw [HNEW.out]
                  dsimp only
                  rw [show Ln.cls bs b k = cl0 from HCL.out]
                  exact hC
                · rw [HNEW.out]
                  dsimp only
                  rw [HP2.out]
                  exact kP
              case measure => simp [intOf]; omega
        · rw [hpl] at cP
          have hsk := Ln.rgK_skip hpl
          have HSK := Lib.hid hsk
          have REL := Lib.hid (And.intro hC (And.intro kP (And.intro k4 (And.intro kD hB))))
          clear hC kP k4 kD hB hpl hsk
          go_wp2_with fail
          go_roundw
          case rel =>
            obtain ⟨hC, kP, k4, kD, hB⟩ := REL.out
            rw [← HSK.out] at hC kP
            exact ⟨k + 1, vs, by omega, by go_num, hC, kP, k4, kD, hB⟩
          case measure => simp [intOf]; omega
      · obtain rfl : k = n := by omega
        have REL := Lib.hid (And.intro hC hB)
        clear hC kP k4 kD hB
        go_wp2_with fail
        go_ret2
        obtain ⟨hC, hB⟩ := REL.out
        obtain ⟨A', c', rfl, hrd⟩ := own_read hC.own
        exact ⟨_, rfl, ⟨A', c', vs, rfl, hrd, fun i hi => by obtain ⟨B', d', e1, e2, _⟩ := hC.rows i hi; exact ⟨B', d', e1, e2⟩⟩, hB⟩
  · rw [Ln.rgF_bad hs]
    have hne : (Ln.soundF N bs [] != 0) = true := by simp [hs]
    have hcall := sound_err N A c bs none 0 [] _ hR1 hc (hP0 _) (by simp) hs
    obtain ⟨s, hss⟩ : ∃ s, Ln.soundF N bs [] = s := ⟨_, rfl⟩
    rw [hss] at hne hcall ⊢
    have HC := Lib.hid hcall
    clear hs hss hcall
    go_enter Try.func16, Try.ntmps16
    go_wp2_with fail
    refine HC.out.mono ?_
    rintro e w1 ⟨rfl, hb1⟩
    go_wp2_with fail
    go_ret2
    exact ⟨_, rfl, LL.nil _, hB0.trans (hb1.mono hB0.size)⟩

end Go.Proofs.Yteiaofgkmgllcaa
