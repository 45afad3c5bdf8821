/-
  LineLattice: the law's walk, where Least ends with an error, and Greatest with one.
-/
import Derived.Test.YtdndhfggdjphjaaLLatB
set_option linter.unusedVariables false
set_option linter.unusedSimpArgs false
namespace Go.Proofs.Ytdndhfggdjphjaa
open Go.RowKit Go.Shelf

section
variable (N : Int) (A : Option Addr) (c : Nat) (bs : List Ln.Bd) (Ay : Option Addr) (cy : Nat) (y : List Int) (Az : Option Addr) (cz : Nat) (z : List Int) (w : World)
  (hR : Rd w w.heap.size 4 A bs.length (bcells bs)) (hn : bs.length ≤ 9223372036854775807)

set_option maxRecDepth 100000 in
set_option maxHeartbeats 8000000 in
include hR hn in
theorem lattice_ff (hf : Ln.fewF N bs.length 14 40 = true) (hy : y.length ≤ 20) (hz : z.length ≤ 20) (l1 l2 : List Int) (er1 er2 : Int) (i1 i2 : Int) (b1 b2 : Bool) (g1 g2 : Int)
    (HE1 : Hid ((er1 == 0) = false)) (HE2 : Hid ((er2 == 0) = false))
    (H1 : Hid (LsC N bs l1 er1)) (H2 : Hid (GsC N bs l2 er2)) (K1 : Hid (KpC N bs y i1 b1 g1)) (K2 : Hid (KpC N bs z i2 b2 g2)) (L1 : Hid (0 < l1.length → KpC N bs l1 0 true 0)) (L2 : Hid (0 < l2.length → KpC N bs l2 0 true 0))
    (GOOD : Hid (b1 = true → b2 = true → g1 = 0 → g2 = 0 → ∃ n : Nat, N = n ∧ n ≤ 14 ∧ y.length = n ∧ z.length = n ∧ (er1 = 0 → l1.length = n ∧ ∀ p, p < n → Ln.gt l1 p ≤ min (Ln.gt y p) (Ln.gt z p)) ∧ (er2 = 0 → l2.length = n ∧ ∀ p, p < n → max (Ln.gt y p) (Ln.gt z p) ≤ Ln.gt l2 p) ∧
      KpC N bs ((List.range n).map (fun p => min (Ln.gt y p) (Ln.gt z p))) 0 true 0 ∧ KpC N bs ((List.range n).map (fun p => max (Ln.gt y p) (Ln.gt z p))) 0 true 0))
    (hY : Rd w w.heap.size 1 Ay y.length (ints y)) (hZ : Rd w w.heap.size 1 Az z.length (ints z)) :
    Calls Try.prog 8 #[.agg #[.int .i64 N, .slice A bs.length c], .slice Ay y.length cy, .slice Az z.length cz] w fun e w' => e = .returned (.bool true) ∧ Below w.heap.size w w' := by
  have s0 := Sy.new (w := w) N c hR
  have HF := Lib.hid hf
  have e1 : ¬ (20 : Int) < (y.length : Int) := by omega
  have e2 : ¬ (20 : Int) < (z.length : Int) := by omega
  clear hf
  go_enter Try.func8, Try.ntmps8
  go_wp2_with fail
  refine (some_law N A bs.length c hn _).mono ?_
  rw [HF.out]
  rintro e w1 ⟨rfl, hb1⟩
  have s1 := s0.step hb1
  obtain ⟨c0, c1, cl⟩ := s1.cells
  go_wp2_with fail
  refine (H1.out _ _ _ s1.rd).mono ?_
  rintro e w2 ⟨V1, rfl, o1, hb2⟩
  obtain ⟨A3, c3, rfl, r1⟩ := own_read o1
  have s2 := s1.step hb2
  clear c0 c1 cl o1
  obtain ⟨c0, c1, cl⟩ := s2.cells
  go_wp2_with fail
  refine (H2.out _ _ _ s2.rd).mono ?_
  rintro e w3 ⟨V2, rfl, o2, hb3⟩
  obtain ⟨A4, c4, rfl, r2⟩ := own_read o2
  have s3 := s2.step hb3
  have hY3 := (hY.below s3.bl (Nat.le_refl _)).more s3.bl.size
  have hZ3 := (hZ.below s3.bl (Nat.le_refl _)).more s3.bl.size
  have p3 : LatP w w3 w.heap.size w3.heap.size N A c bs Ay y Az z A3 l1 A4 l2 := ⟨s3.bl.size, s3.bk.lt, Nat.le_refl _, s3.bk, s3.rd, hY3, hZ3, (r1.below hb3 (Nat.le_refl _)).more hb3.size, r2, s3.bl⟩
  clear c0 c1 cl o2 r1 r2 s2 s1 s0 hb2 hb1 hY3 hZ3
  obtain ⟨c0, c1, cl⟩ := s3.cells
  clear s3
  go_wp2_with fail
  refine (K1.out _ _ _ _ _ p3.rd p3.ry).mono ?_
  rintro e w4 ⟨rfl, hb4⟩
  have p4 := (p3.step hb4).up
  clear c0 c1 cl p3
  have c0 := (p4.bk.cell 0).trans rfl
  have c1 := (p4.bk.cell 1).trans rfl
  have cl := p4.lt
  go_wp2_with fail
  refine (K2.out _ _ _ _ _ p4.rd p4.rz).mono ?_
  rintro e w5 ⟨rfl, hb5⟩
  have p5 := (p4.step hb5).up
  clear c0 c1 cl p4
  have kx := Bk.new w5 34 #[.slice A3 l1.length c3, .slice A4 l2.length c4]
  have p6 := (p5.step ((Below.refl _ w5).alloc (Nat.le_refl _) (.cells #[.slice A3 l1.length c3, .slice A4 l2.length c4] 34))).up
  obtain ⟨sb, hsb⟩ : ∃ sb, w.heap.size = sb := ⟨_, rfl⟩
  have HSB := Lib.hid hsb
  clear p5
  go_wp2_with fail
  obtain ⟨W6, hW6⟩ : ∃ W6, w5.alloc (.cells #[.slice A3 l1.length c3, .slice A4 l2.length c4] 34) = W6 := ⟨_, rfl⟩
  obtain ⟨xb, hxb⟩ : ∃ xb, w5.heap.size = xb := ⟨_, rfl⟩
  rw [hW6] at kx p6 ⊢
  rw [hxb] at kx ⊢
  clear hW6 hxb
  rw [hsb] at p6
  clear hsb
  obtain ⟨B, hB⟩ : ∃ B, W6.heap.size = B := ⟨_, rfl⟩
  rw [hB] at p6
  have hxB : xb < B := by rw [← hB]; exact kx.lt
  clear hB hR hY hZ
  go_loopw [73] (fun i wr => ∃ k : Nat, k ≤ 2 ∧ i = .int .i64 k ∧ Bk wr xb 34 #[.slice A3 l1.length c3, .slice A4 l2.length c4] ∧ LatP w wr sb B N A c bs Ay y Az z A3 l1 A4 l2)
    (fun i _ => 2 - (intOf i).toNat)
  case atStart => exact ⟨0, by omega, rfl, kx, p6⟩
  case round =>
    clear kx p6
    obtain ⟨k, hk, rfl, kx, p6⟩ := hrel
    by_cases hkl : k < 2
    · have hk0 : (0 : Int) ≤ (k : Int) := Int.natCast_nonneg _
      have hk2 : (k : Int) < 2 := by omega
      obtain ⟨A', c', l, cx, rx, HK⟩ : ∃ A' c' l, wr.cell? ⟨xb, k, none⟩ = some (.slice A' (List.length l) c') ∧ Rd wr B 1 A' (List.length l) (ints l) ∧ Hid (0 < l.length → KpC N bs l 0 true 0) := by
        by_cases h0 : k = 0
        · subst h0
          exact ⟨A3, c3, l1, (kx.cell 0).trans rfl, p6.r1, L1⟩
        · obtain rfl : k = 1 := by omega
          exact ⟨A4, c4, l2, (kx.cell 1).trans rfl, p6.r2, L2⟩
      have hxl := kx.lt
      by_cases hl0 : l.length = 0
      · have e3 : ¬ (0 : Int) < (l.length : Int) := by omega
        have REL := Lib.hid (And.intro kx p6)
        clear kx p6 rx hl0
        go_wp2_with fail
        go_roundw
        case rel => exact ⟨k + 1, by omega, by go_num, REL.out.1, REL.out.2⟩
        case measure => simp [intOf]; omega
      · have e3 : (0 : Int) < (l.length : Int) := by omega
        have hkk := HK.out (by omega)
        have HKK := Lib.hid hkk
        clear hkk HK hl0
        have c0 := (p6.bk.cell 0).trans rfl
        have c1 := (p6.bk.cell 1).trans rfl
        have cl := p6.bk.lt
        go_wp2_with fail
        refine (HKK.out _ _ _ _ _ (p6.rd.more p6.sz) (rx.more p6.sz)).mono ?_
        rintro e w7 ⟨rfl, hb7⟩
        have p7 := p6.step hb7
        have kx7 := kx.below hb7 hxl
        have REL := Lib.hid (And.intro kx7 p7)
        clear kx p6 rx kx7 p7 c0 c1 cl
        go_wp2_with fail
        go_roundw
        case rel => exact ⟨k + 1, by omega, by go_num, REL.out.1, REL.out.2⟩
        case measure => simp [intOf]; omega
    · have hk2 : k = 2 := by omega
      subst hk2
      clear kx
      by_cases hgood : b1 = true ∧ b2 = true ∧ g1 = 0 ∧ g2 = 0
      · obtain ⟨rfl, rfl, rfl, rfl⟩ := hgood
        obtain ⟨n, rfl, hn14, hyn, hzn, q1, q2, kA, kB⟩ := GOOD.out rfl rfl rfl rfl
        clear GOOD L1 L2 H1 H2 K1 K2
        have p7 := p6.up
        have c0 := (p7.bk.cell 0).trans rfl
        have cl := p7.lt
        obtain ⟨B7, hB7⟩ : ∃ B7, wr.heap.size = B7 := ⟨_, rfl⟩
        rw [hB7] at p7
        have HB7 := Lib.hid hB7
        have hcw : ∀ o, (wr.alloc o).cell? ⟨sb, 0, none⟩ = some (.int .i64 (n : Int)) := fun o => (World.cell?_of_block (Below.heap_alloc _ _ _ cl)).trans c0
        have hb9 : Below B7 wr ((wr.alloc (.cells (av (Ln.zerosN n)) 3)).alloc (.cells (av (Ln.zerosN n)) 3)).drew := by rw [← hB7]; exact (((Below.refl _ _).alloc (Nat.le_refl _) _).alloc (by simp) _).drew
        have p9 := p7.keep hb9
        have m1 : Bk ((wr.alloc (.cells (av (Ln.zerosN n)) 3)).alloc (.cells (av (Ln.zerosN n)) 3)).drew wr.heap.size 3 (av (Ln.zerosN n)) := (Bk.new wr 3 (av (Ln.zerosN n))).alloc (.cells (av (Ln.zerosN n)) 3)
        have m2 : Bk ((wr.alloc (.cells (av (Ln.zerosN n)) 3)).alloc (.cells (av (Ln.zerosN n)) 3)).drew (wr.heap.size + 1) 3 (av (Ln.zerosN n)) := by
          have h := Bk.new (wr.alloc (.cells (av (Ln.zerosN n)) 3)) 3 (av (Ln.zerosN n))
          rw [World.size_alloc] at h
          exact h
        have REL := Lib.hid (And.intro p9 (And.intro m1 m2))
        clear p6 p7 hB7 hb9 p9 m1 m2
        go_upto_region 17 with fail
        go_cut [22, 23] (fun s22 s23 wx => ∃ ga gb, s22 = .slice (some ⟨ga, 0, none⟩) n n ∧ s23 = .slice (some ⟨gb, 0, none⟩) n n ∧ ga ≠ gb ∧ B7 ≤ ga ∧ B7 ≤ gb ∧ Bk wx ga 3 (av (Ln.zerosN n)) ∧ Bk wx gb 3 (av (Ln.zerosN n)) ∧ LatP w wx sb B7 (n : Int) A c bs Ay y Az z A3 l1 A4 l2)
        case first =>
          have hmk := run_make_ints n (by omega)
          go_region
          all_goals
            go_wp2_with fail
            go_meet
            obtain ⟨p9, m1, m2⟩ := REL.out
            have hb7 := HB7.out
            first
              | exact ⟨_, _, rfl, rfl, by omega, by omega, by omega, m1, m2, p9⟩
              | exact ⟨_, _, rfl, rfl, by omega, by omega, by omega, m2, m1, p9⟩
        case rest =>
          obtain ⟨ga, gb, rfl, rfl, hab, hga, hgb, m1, m2, p9⟩ := hcut
          have c0 := (p9.bk.cell 0).trans rfl
          have cl := p9.bk.lt
          have REL := Lib.hid (And.intro p9 (And.intro m1 m2))
          clear p9 m1 m2
          go_wp2_with fail
          obtain ⟨p9, m1, m2⟩ := REL.out
          clear REL c0 cl hcw HB7
          go_loopw [117] (fun i wq => ∃ k : Nat, k ≤ n ∧ i = .int .i64 k ∧ Bk wq ga 3 (av ((List.range k).map (fun p => min (Ln.gt y p) (Ln.gt z p)) ++ Ln.zerosN (n - k))) ∧ Bk wq gb 3 (av ((List.range k).map (fun p => max (Ln.gt y p) (Ln.gt z p)) ++ Ln.zerosN (n - k))) ∧ LatP w wq sb B7 (n : Int) A c bs Ay y Az z A3 l1 A4 l2)
            (fun i _ => n - (intOf i).toNat)
          case atStart => exact ⟨0, Nat.zero_le _, rfl, by simpa using m1, by simpa using m2, p9⟩
          case round =>
            clear m1 m2 p9
            obtain ⟨k, hk, rfl, m1, m2, p9⟩ := hrel
            by_cases hkl : k < n
            · have hk0 : (0 : Int) ≤ (k : Int) := Int.natCast_nonneg _
              have hk1 : (k : Int) < n := by omega
              have hky : k < y.length := by omega
              have hkz : k < z.length := by omega
              obtain ⟨by_, oy, rfl, hby, cy0⟩ := p9.ry.one hky
              obtain ⟨bz_, oz, rfl, hbz, cz0⟩ := p9.rz.one hkz
              rw [← Ln.gt_eq hky] at cy0
              rw [← Ln.gt_eq hkz] at cz0
              obtain ⟨yv, hyv⟩ : ∃ yv, Ln.gt y k = yv := ⟨_, rfl⟩
              obtain ⟨zv, hzv⟩ : ∃ zv, Ln.gt z k = zv := ⟨_, rfl⟩
              rw [hyv] at cy0
              rw [hzv] at cz0
              have ca := (m1.cell k).trans (av_at (by simp [Ln.zerosN]; omega))
              have cb := (m2.cell k).trans (av_at (by simp [Ln.zerosN]; omega))
              have fa := m1.frozen k
              have fb := m2.frozen k
              obtain ⟨va, hva⟩ : ∃ va, Ln.gt ((List.range k).map (fun p => min (Ln.gt y p) (Ln.gt z p)) ++ Ln.zerosN (n - k)) k = va := ⟨_, rfl⟩
              obtain ⟨vb, hvb⟩ : ∃ vb, Ln.gt ((List.range k).map (fun p => max (Ln.gt y p) (Ln.gt z p)) ++ Ln.zerosN (n - k)) k = vb := ⟨_, rfl⟩
              rw [hva] at ca
              rw [hvb] at cb
              have lga := m1.lt
              have lgb := m2.lt
              have hyb : by_ ≠ ga := by omega
              have hyb2 : by_ ≠ gb := by omega
              have hzb : bz_ ≠ ga := by omega
              have hzb2 : bz_ ≠ gb := by omega
              have HYV := Lib.hid hyv
              have HZV := Lib.hid hzv
              have REL := Lib.hid (And.intro p9 (And.intro m1 m2))
              have Q1 := Lib.hid q1
              have Q2 := Lib.hid q2
              have KA := Lib.hid kA
              have KB := Lib.hid kB
              clear hyv hzv hva hvb p9 m1 m2 q1 q2 kA kB
              go_upto_region 21 with fail
              go_region
              all_goals
                obtain ⟨p9, m1, m2⟩ := REL.out
                have hbW : Below B7 wr ((wr.setCell ⟨ga, k, none⟩ (.int .i64 (min yv zv))).setCell ⟨gb, k, none⟩ (.int .i64 (max yv zv))).drew := (((Below.refl _ _).setCell (p := ⟨ga, k, none⟩) hga _).setCell (p := ⟨gb, k, none⟩) hgb _).drew
                have pW := p9.keep hbW
                have mA : Bk ((wr.setCell ⟨ga, k, none⟩ (.int .i64 (min yv zv))).setCell ⟨gb, k, none⟩ (.int .i64 (max yv zv))).drew ga 3 (av ((List.range (k + 1)).map (fun p => min (Ln.gt y p) (Ln.gt z p)) ++ Ln.zerosN (n - (k + 1)))) := by
                  have h := (m1.set k (.int .i64 (min yv zv))).far (p := ⟨gb, k, none⟩) (by simpa using hab) (.int .i64 (max yv zv))
                  rw [av_set, ← HYV.out, ← HZV.out, mk_next (fun p => min (Ln.gt y p) (Ln.gt z p)) hkl, HYV.out, HZV.out] at h
                  exact h
                have mB : Bk ((wr.setCell ⟨ga, k, none⟩ (.int .i64 (min yv zv))).setCell ⟨gb, k, none⟩ (.int .i64 (max yv zv))).drew gb 3 (av ((List.range (k + 1)).map (fun p => max (Ln.gt y p) (Ln.gt z p)) ++ Ln.zerosN (n - (k + 1)))) := by
                  have h := (m2.far (p := ⟨ga, k, none⟩) (by simpa using Ne.symm hab) (.int .i64 (min yv zv))).set k (.int .i64 (max yv zv))
                  rw [av_set, ← HYV.out, ← HZV.out, mk_next (fun p => max (Ln.gt y p) (Ln.gt z p)) hkl, HYV.out, HZV.out] at h
                  exact h
                have gm : ∀ f : Nat → Int, Ln.gt ((List.range (k + 1)).map f ++ Ln.zerosN (n - (k + 1))) k = f k := fun f => by
                  unfold Ln.gt
                  rw [List.getD_eq_getElem?_getD, List.getElem?_append_left (by simp), List.getElem?_map, List.getElem?_range (by omega)]
                  rfl
                obtain ⟨W9, hW9⟩ : ∃ W9, ((wr.setCell ⟨ga, k, none⟩ (.int .i64 (min yv zv))).setCell ⟨gb, k, none⟩ (.int .i64 (max yv zv))).drew = W9 := ⟨_, rfl⟩
                rw [hW9] at pW mA mB ⊢
                have ca9 := (mA.cell k).trans (av_at (by simp [Ln.zerosN]; omega))
                have cb9 := (mB.cell k).trans (av_at (by simp [Ln.zerosN]; omega))
                rw [gm, HYV.out, HZV.out] at ca9 cb9
                have c09 := (pW.bk.cell 0).trans rfl
                have RELW := Lib.hid (And.intro pW (And.intro mA mB))
                clear REL p9 m1 m2 hbW hW9 gm ca cb fa fb cy0 cz0
                go_upto_region 22 with fail
                have he1 := HE1.out
                have he2 := HE2.out
                clear pW mA mB
                go_quiet (fail)
                go_wp2_with fail
                go_roundw
                case rel =>
                  obtain ⟨pW, mA, mB⟩ := RELW.out
                  exact ⟨k + 1, by omega, by go_num, mA, mB, pW.keep (below_drewN (Below.refl _ _) _)⟩
                case measure => simp [intOf]; omega
            · have hke : k = n := by omega
              subst hke
              rw [Nat.sub_self, show Ln.zerosN 0 = [] from rfl, List.append_nil] at m1 m2
              have kA := Lib.hid kA
              have kB := Lib.hid kB
              obtain ⟨la, hla⟩ : ∃ la, (List.range k).map (fun p => min (Ln.gt y p) (Ln.gt z p)) = la := ⟨_, rfl⟩
              obtain ⟨lb, hlb⟩ : ∃ lb, (List.range k).map (fun p => max (Ln.gt y p) (Ln.gt z p)) = lb := ⟨_, rfl⟩
              have nla : la.length = k := by rw [← hla]; simp
              have nlb : lb.length = k := by rw [← hlb]; simp
              rw [hla] at kA m1
              rw [hlb] at kB m2
              have ra := bk_rd (n := la.length) (size := 1) m1 (by omega)
              have rb := bk_rd (n := lb.length) (size := 1) m2 (by omega)
              have p10 := p9.up
              have c0 := (p10.bk.cell 0).trans rfl
              have c1 := (p10.bk.cell 1).trans rfl
              have cl := p10.lt
              clear hla hlb m1 m2 p9 q1 q2
              rw [nla] at ra
              rw [nlb] at rb
              have NLA := Lib.hid nla
              have NLB := Lib.hid nlb
              have hkA := fun A c A2 c2 w h1 h2 => kA.out A c A2 c2 w h1 h2
              have hkB := fun A c A2 c2 w h1 h2 => kB.out A c A2 c2 w h1 h2
              rw [nla] at hkA
              rw [nlb] at hkB
              have HKA := Lib.hid hkA
              have HKB := Lib.hid hkB
              clear hkA hkB nla nlb
              go_wp2_with fail
              refine (HKA.out _ _ _ _ _ p10.rd ra).mono ?_
              rintro e w11 ⟨rfl, hb11⟩
              have p11 := (p10.step hb11).up
              have rb11 := (rb.below hb11 (Nat.le_refl _)).more hb11.size
              clear c0 c1 cl p10 ra rb
              have c0 := (p11.bk.cell 0).trans rfl
              have c1 := (p11.bk.cell 1).trans rfl
              have cl := p11.lt
              go_wp2_with fail
              refine (HKB.out _ _ _ _ _ p11.rd rb11).mono ?_
              rintro e w12 ⟨rfl, hb12⟩
              have p12 := p11.step hb12
              clear c0 c1 cl p11 rb11
              go_wp2_with fail
              refine (alive_any _).mono ?_
              rintro e w13 ⟨rfl, hb13⟩
              have p13 := p12.step hb13
              go_wp2_with fail
              go_ret
              exact ⟨rfl, p13.bl⟩
      · have hbad : g1 ≠ 0 ∨ g1 = 0 ∧ (g2 ≠ 0 ∨ g2 = 0 ∧ (b1 = false ∨ b1 = true ∧ b2 = false)) := by
          by_cases h1 : g1 = 0
          · refine .inr ⟨h1, ?_⟩
            by_cases h2 : g2 = 0
            · refine .inr ⟨h2, ?_⟩
              rcases b1 with _ | _
              · exact .inl rfl
              · refine .inr ⟨rfl, ?_⟩
                rcases b2 with _ | _
                · rfl
                · exact absurd ⟨rfl, rfl, h1, h2⟩ hgood
            · exact .inl h2
          · exact .inl h1
        clear hgood
        rcases hbad with h | ⟨rfl, h | ⟨rfl, rfl | ⟨rfl, rfl⟩⟩⟩
        · have e5 : (g1 != 0) = true := by simp [h]
          go_wp2_with fail
          refine (alive_any _).mono ?_
          rintro e wz ⟨rfl, hbz⟩
          have pz := p6.step hbz
          go_wp2_with fail
          go_ret
          exact ⟨rfl, pz.bl⟩
        · have e5 : (g2 != 0) = true := by simp [h]
          go_wp2_with fail
          refine (alive_any _).mono ?_
          rintro e wz ⟨rfl, hbz⟩
          have pz := p6.step hbz
          go_wp2_with fail
          go_ret
          exact ⟨rfl, pz.bl⟩
        · go_wp2_with fail
          refine (alive_any _).mono ?_
          rintro e wz ⟨rfl, hbz⟩
          have pz := p6.step hbz
          go_wp2_with fail
          go_ret
          exact ⟨rfl, pz.bl⟩
        · go_wp2_with fail
          refine (alive_any _).mono ?_
          rintro e wz ⟨rfl, hbz⟩
          have pz := p6.step hbz
          go_wp2_with fail
          go_ret
          exact ⟨rfl, pz.bl⟩
end

end Go.Proofs.Ytdndhfggdjphjaa
