/-
  The reference's follow and Path.
-/
import Derived.Test.YteiaofgkmgllcaaStpR
import Derived.Deep.QuietTactic
import Derived.BigQuiet
set_option linter.unusedVariables false
set_option linter.unusedSimpArgs false
namespace Go.Proofs.Yteiaofgkmgllcaa
open Go.RowKit Go.Shelf

theorem own_back {w : World} {base base' : Nat} {e : TypeId} {size : Nat} {v : Value} {n : Nat} {xs : List Value} (h : w.ownsRow base e size v n xs) (hb : base' ≤ base) : w.ownsRow base' e size v n xs :=
  ⟨h.1, h.2.imp id fun ⟨g, cap, cur, e1, e2, e3⟩ => ⟨g, cap, cur, e1, Nat.le_trans hb e2, e3⟩⟩

theorem SP.grown {w w' : World} {G M N k base : Nat} {blk : Nat → Nat} {C : Nat → Nat → Int × Bool} {row : Option Nat} (h : SP w G M N k blk C) (hg : w.grownBy w' row) (hr : ∀ j, row = some j → base ≤ j) (hG : G < base) (hb : ∀ a, a < k → blk a < base) : SP w' G M N k blk C :=
  ⟨h.out.grown hg (fun e => by have := hr _ e.symm; omega), fun a ha => (h.row a ha).grown hg (fun e => by have := hr _ e.symm; have := hb a ha; omega), h.inj, h.gt⟩

set_option maxRecDepth 100000 in
set_option maxHeartbeats 8000000 in
theorem rfollow_any {N : Nat} {bs : List Ln.Bd} (hok : Ln.Ok N bs) (h14 : N ≤ 14) (A : Option Addr) (c : Nat) (G M : Nat) (blk : Nat → Nat) (R : Nat → Nat → Int × Bool) (hsm : ∀ k v, k ≤ 15 → -20000000 ≤ (R k v).1 ∧ (R k v).1 ≤ 20000000) (a K n0 : Nat) (ha : a < N) (hK : K ≤ M) (hM : M ≤ 15) (lv : Int) (hlv : lv + 1 = (n0 : Int)) (hn0 : n0 ≤ bs.length) (most : Int) (hmo : -100000000000 ≤ most ∧ most ≤ 100000000000) (w : World) (hR : Rd w w.heap.size 4 A bs.length (bcells bs)) (hF : SP w G M N M blk R) :
    Calls Try.prog 40 #[.agg #[.int .i64 (N : Int), .slice A bs.length c], .slice (some ⟨G, 0, none⟩) M M, .int .i64 (a : Int), .int .i64 (K : Int), .int .i64 lv, .int .i64 most] w fun e w' => ∃ V, e = .returned V ∧ w'.ownsRow w.heap.size 3 1 V (Ln.folF bs n0 R K a most).length (nlist (Ln.folF bs n0 R K a most)) ∧ Below w.heap.size w w' := by
  obtain ⟨i0, hi0, hz0, hz1, hz2⟩ := info_parts info3
  have hpos := hok.pos
  have hlen := hok.len
  have HEACH := Lib.hid (fun (i : Nat) (hi : i < bs.length) => hok.each _ (Ln.bd_mem hi))
  have HSM := Lib.hid hsm
  have hlG := hF.out.lt
  have HLB := Lib.hid (show ∀ a, a < M → blk a < w.heap.size from fun a ha => (hF.row a ha).lt)
  have REL := Lib.hid (And.intro (Bk.new w 24 #[.int .i64 (N : Int), .slice A bs.length c]) (And.intro (hF.alloc (.cells #[.int .i64 (N : Int), .slice A bs.length c] 24)) ((Below.refl w.heap.size w).alloc (Nat.le_refl _) (.cells #[.int .i64 (N : Int), .slice A bs.length c] 24))))
  clear hsm hok hF
  obtain ⟨fo, hfo⟩ : ∃ fo, Ln.folF bs n0 R K a most = fo := ⟨_, rfl⟩
  rw [hfo]
  have HFO := Lib.hid hfo
  clear hfo
  go_enter Try.func40, Try.ntmps40
  go_wp2_with fail
  obtain ⟨k1, hF1, hB⟩ := REL.out
  have hsz : w.heap.size + 1 ≤ (w.alloc (.cells #[.int .i64 (N : Int), .slice A bs.length c] 24)).heap.size := by rw [World.size_alloc]; omega
  obtain ⟨W, hW⟩ : ∃ W, w.alloc (.cells #[.int .i64 (N : Int), .slice A bs.length c] 24) = W := ⟨_, rfl⟩
  rw [hW] at k1 hF1 hB hsz ⊢
  obtain ⟨sb, hsb⟩ : ∃ sb, w.heap.size = sb := ⟨_, rfl⟩
  have HSB := Lib.hid hsb
  have hRs : Rd w sb 4 A bs.length (bcells bs) := by rw [← hsb]; exact hR
  rw [hsb] at k1 hB hlG hsz ⊢
  clear REL hW hsb hR
  go_loopw [13, 14, 15, 16] (fun V s14 s15 i wr => ∃ (k p : Nat) (left : Int) (L : List Nat), k ≤ K ∧ p < N ∧ s14 = .int .i64 p ∧ s15 = .int .i64 left ∧ i = .int .i64 k ∧ fo = L ++ Ln.folF bs n0 R k p left ∧ L.length + k ≤ K ∧ (most - 1000000 * ((K : Int) - k) ≤ left ∧ left ≤ most + 1000000 * ((K : Int) - k)) ∧ wr.ownsRow (sb + 1) 3 1 V L.length (nlist L) ∧ SP wr G M N M blk R ∧ Bk wr sb 24 #[.int .i64 (N : Int), .slice A bs.length c] ∧ sb + 1 ≤ wr.heap.size ∧ Below sb w wr)
    (fun _ _ _ i _ => (intOf i).toNat)
  case atStart => exact ⟨K, a, most, [], Nat.le_refl _, ha, rfl, rfl, rfl, HFO.out.symm, by simp, by omega, own_none _ _ _, hF1, k1, hsz, hB⟩
  case round =>
    clear hF1 k1 hB hsz
    obtain ⟨k, p, left, L, hk, hp, rfl, rfl, rfl, hfol, hLk, hlf, hO, hP, k2, hws, hB⟩ := hrel
    have HFOL := Lib.hid hfol
    have c1 := (k2.cell 1).trans rfl
    have ls2 := k2.lt
    have hk0 : (0 : Int) ≤ (k : Int) := Int.natCast_nonneg _
    clear hfol
    by_cases hkz : 0 < k
    · obtain ⟨k', rfl⟩ : ∃ k', k = k' + 1 := ⟨k - 1, by omega⟩
      have hlv2 : IntKind.i64.wrap (lv + 1) = (n0 : Int) := by rw [hlv]; exact IntWalk.i64_in _ (by omega)
      have hkp : (0 : Int) < (k' : Int) + 1 := by omega
      have REL := Lib.hid (And.intro hO (And.intro hP (And.intro k2 hB)))
      clear hO hP k2 hB
      go_wp2_with fail
      obtain ⟨hO, hP, k2, hB⟩ := REL.out
      clear REL c1 ls2
      go_loopw [13, 14, 15, 17] (fun V' s14 s15 i wr => ∃ i0 : Nat, n0 ≤ i0 ∧ i0 ≤ bs.length ∧ V' = u13 ∧ s14 = .int .i64 p ∧ s15 = .int .i64 left ∧ i = .int .i64 i0 ∧ (∀ j, j < i0 → Ln.folP bs n0 (R k') p left j = false) ∧ wr.ownsRow (sb + 1) 3 1 u13 L.length (nlist L) ∧ SP wr G M N M blk R ∧ Bk wr sb 24 #[.int .i64 (N : Int), .slice A bs.length c] ∧ sb + 1 ≤ wr.heap.size ∧ Below sb w wr)
        (fun _ _ _ i _ => bs.length - (intOf i).toNat)
      case atStart => exact ⟨n0, Nat.le_refl _, hn0, rfl, rfl, rfl, rfl, fun j hj => by simp [Ln.folP, show ¬ n0 ≤ j by omega], hO, hP, k2, hws, hB⟩
      case round =>
        clear hO hP k2 hB hws
        obtain ⟨i, hi1', hi2', rfl, rfl, rfl, rfl, hpre, hO, hP, k2, hws, hB⟩ := hrel
        have HPRE := Lib.hid hpre
        have c1 := (k2.cell 1).trans rfl
        have ls2 := k2.lt
        have hi0' : (0 : Int) ≤ (i : Int) := Int.natCast_nonneg _
        clear hpre
        by_cases hil : i < bs.length
        · have hil' : (i : Int) < bs.length := by omega
          obtain ⟨bb, off, rfl, hbb, e0, e1, e2, e3⟩ := (hRs.below hB (Nat.le_refl _)).bound hil
          rw [← Ln.bd_eq hil] at e0 e1 e2 e3
          have he := HEACH.out i hil
          have hpd : Ln.folP bs n0 (R k') p left i = (decide ((Ln.bd bs i).f = (p : Int)) && ((R k' (Ln.bd bs i).t.toNat).2 && decide ((Ln.bd bs i).m + (R k' (Ln.bd bs i).t.toNat).1 ≤ left))) := by
            rw [Ln.folP]
            simp [hi1']
          have hfs : fo = L ++ Ln.folF bs n0 R (k' + 1) p left := HFOL.out
          have hsome : Ln.folP bs n0 (R k') p left i = true → fo = L ++ (i :: Ln.folF bs n0 R k' (Ln.bd bs i).t.toNat (left - (Ln.bd bs i).m)) := fun h => by
            rw [hfs, Ln.folF_some]
            rw [List.find?_range_eq_some]
            exact ⟨h, by simp; omega, fun j hj => by simp [HPRE.out j hj]⟩
          have hnext : Ln.folP bs n0 (R k') p left i = false → ∀ j, j < i + 1 → Ln.folP bs n0 (R k') p left j = false := fun h j hj => by
            by_cases e : j = i
            · subst e; exact h
            · exact HPRE.out j (by omega)
          obtain ⟨f, hf⟩ : ∃ f : Nat, (Ln.bd bs i).f = f := ⟨(Ln.bd bs i).f.toNat, by omega⟩
          obtain ⟨q, hq⟩ : ∃ q : Nat, (Ln.bd bs i).t = q := ⟨(Ln.bd bs i).t.toNat, by omega⟩
          obtain ⟨mm, hmm⟩ : ∃ mm, (Ln.bd bs i).m = mm := ⟨_, rfl⟩
          obtain ⟨rr, hrr⟩ : ∃ rr, (Ln.bd bs i).r = rr := ⟨_, rfl⟩
          rw [hq, hmm, Int.toNat_natCast] at hsome
          rw [hf, hq, hmm, Int.toNat_natCast] at hpd
          rw [hf, hq, hmm] at he
          rw [hf] at e0
          rw [hq] at e1
          rw [hmm] at e2
          rw [hrr] at e3
          have hfN : f < N := by omega
          have hqN : q < N := by omega
          have hm1 := he.2.2.1
          have hm2 := he.2.2.2
          have hbw : bb < wr.heap.size := by have := hB.size; have := HSB.out; omega
          have hpi : (p : Int) < (N : Int) := by omega
          have hqi : (q : Int) < (N : Int) := by omega
          have hp0 : (0 : Int) ≤ (p : Int) := Int.natCast_nonneg _
          have hq0 : (0 : Int) ≤ (q : Int) := Int.natCast_nonneg _
          have hf0 : (0 : Int) ≤ (f : Int) := Int.natCast_nonneg _
          have hs1 := HSM.out k' q (by omega)
          obtain ⟨⟨r0, r1⟩, hr⟩ : ∃ z, R k' q = z := ⟨_, rfl⟩
          rw [hr] at hpd hs1
          dsimp only at hpd hs1
          have HPD := Lib.hid hpd
          have HSO := Lib.hid hsome
          have HNX := Lib.hid hnext
          have HR := Lib.hid hr
          have HVL := Lib.hid (show ∀ g, u13.ownBlock = some g → sb + 1 ≤ g ∧ g < wr.heap.size from fun g e => hO.lt g e)
          have REL := Lib.hid (And.intro (hO.alloc (.cells #[.int .i64 f, .int .i64 q, .int .i64 mm, .int .i64 rr] 50)) (And.intro (hP.alloc (.cells #[.int .i64 f, .int .i64 q, .int .i64 mm, .int .i64 rr] 50)) (And.intro (k2.alloc (.cells #[.int .i64 f, .int .i64 q, .int .i64 mm, .int .i64 rr] 50)) (And.intro (hB.alloc (by have := hB.size; have := HSB.out; omega) (.cells #[.int .i64 f, .int .i64 q, .int .i64 mm, .int .i64 rr] 50)) (Bk.new wr 50 #[.int .i64 f, .int .i64 q, .int .i64 mm, .int .i64 rr])))))
          clear hO hP k2 hB he hpd hsome hnext hfs hf hq hmm hrr hr
          go_upto_region 11 with fail
          obtain ⟨hO, hP, k2, hB, kX⟩ := REL.out
          obtain ⟨X, hX⟩ : ∃ X, wr.heap.size = X := ⟨_, rfl⟩
          have hszX : (wr.alloc (.cells #[.int .i64 f, .int .i64 q, .int .i64 mm, .int .i64 rr] 50)).heap.size = X + 1 := by rw [World.size_alloc, hX]
          obtain ⟨W3, hW3⟩ : ∃ W3, wr.alloc (.cells #[.int .i64 f, .int .i64 q, .int .i64 mm, .int .i64 rr] 50) = W3 := ⟨_, rfl⟩
          rw [hX] at kX ls2 hbw hws ⊢
          rw [hW3] at hO hP k2 hB kX hszX ⊢
          have HX := Lib.hid hX
          have hX1 : X + 1 ≤ W3.heap.size := Nat.le_of_eq hszX.symm
          clear REL hX hW3 c1 e0 e1 e2 e3 hszX
          have x0 := (kX.cell 0).trans rfl
          have x1 := (kX.cell 1).trans rfl
          have x2 := (kX.cell 2).trans rfl
          have lX := kX.lt
          have o1 := hP.cellO (a := k') (by omega) (by omega)
          obtain ⟨v1, v2⟩ := hP.cells (a := k') (by omega) hqN
          rw [HR.out] at v1 v2
          dsimp only at v1 v2
          have l1 := (hP.row k' (by omega)).lt
          have lG3 := hP.out.lt
          have hkm : (k' : Int) + 1 ≤ (M : Int) := by omega
          have hk9 : (0 : Int) ≤ (k' : Int) := Int.natCast_nonneg _
          have hk8 : (k' : Int) < (M : Int) := by omega
          have hMi : (M : Int) ≤ 15 := by omega
          have hwk2 : IntKind.i64.wrap (k' : Int) = (k' : Int) := IntWalk.i64_in _ (by omega)
          have hwk : IntKind.i64.wrap (((k' : Int) + 1) - 1) = (k' : Int) := by rw [show ((k' : Int) + 1) - 1 = (k' : Int) from by omega]; exact hwk2
          have hbF : Below W3.heap.size W3 (W3.alloc (.cells #[.int .i64 r0, .bool r1] 70)).drew := ((Below.refl _ _).alloc (Nat.le_refl _) _).drew
          have hs5 : (W3.alloc (.cells #[.int .i64 r0, .bool r1] 70)).drew.heap.size = W3.heap.size + 1 := World.size_alloc _ _
          have REL := Lib.hid (And.intro (own_below hO hbF) (And.intro (hP.below hbF) (And.intro (k2.below hbF k2.lt) (And.intro (hB.trans (hbF.mono (by have := hB.size; have := HSB.out; omega))) (And.intro (kX.below hbF kX.lt) (And.intro (show Bk (W3.alloc (.cells #[.int .i64 r0, .bool r1] 70)).drew W3.heap.size 70 #[.int .i64 r0, .bool r1] from Bk.new W3 _ _) hs5))))))
          clear hO hP k2 hB kX hbF hs5
          go_region
          go_upto_region 12 with fail
          obtain ⟨hO, hP, k2, hB, kX, kY, hs5⟩ := REL.out
          obtain ⟨Y, hY⟩ : ∃ Y, W3.heap.size = Y := ⟨_, rfl⟩
          obtain ⟨W5, hW5⟩ : ∃ W5, (W3.alloc (.cells #[.int .i64 r0, .bool r1] 70)).drew = W5 := ⟨_, rfl⟩
          rw [hY] at kY hs5 l1 lG3 lX hX1 ⊢
          rw [hW5] at hO hP k2 hB kX kY hs5 ⊢
          have hY1 : Y + 1 ≤ W5.heap.size := Nat.le_of_eq hs5.symm
          clear REL hY hW5 hs5 o1 v1 v2 x0 x1 x2
          have x0 := (kX.cell 0).trans rfl
          have x1 := (kX.cell 1).trans rfl
          have x2 := (kX.cell 2).trans rfl
          have y0 := (kY.cell 0).trans rfl
          have y1 := (kY.cell 1).trans rfl
          have lX5 := kX.lt
          have lY5 := kY.lt
          have hw5 : sb + 1 ≤ W5.heap.size := by omega
          have hno : (f ≠ p ∨ r1 = false ∨ left < mm + r0) → ∀ j, j < i + 1 → Ln.folP bs n0 (R k') p left j = false := fun h => HNX.out (by
            rw [HPD.out]
            rcases h with h | h | h
            · simp [show ¬ ((f : Int) = (p : Int)) from by omega]
            · simp [h]
            · simp [show ¬ (mm + r0 ≤ left) from by omega])
          have hyes : f = p → r1 = true → mm + r0 ≤ left → fo = L ++ (i :: Ln.folF bs n0 R k' q (left - mm)) := fun h1 h2 h3 => HSO.out (by
            rw [HPD.out]
            simp [h1, h2, h3])
          have HNO := Lib.hid hno
          have HYES := Lib.hid hyes
          have REL := Lib.hid (And.intro hO (And.intro hP (And.intro k2 hB)))
          have KXX := Lib.hid kX
          clear hno hyes hO hP k2 hB HNX HSO HPD kX kY
          by_cases hfp : f = p
          · subst hfp
            have efp : ((f : Int) == (f : Int)) = true := by simp
            rcases r1 with _ | _
            · go_wp2_with fail
              go_roundw
              case rel =>
                obtain ⟨hO, hP, k2, hB⟩ := REL.out
                exact ⟨i + 1, by omega, by omega, rfl, rfl, rfl, by go_num, HNO.out (.inr (.inl rfl)), hO, hP, k2, hw5, hB⟩
              case measure => simp [intOf]; omega
            · rcases Int.lt_or_le left (mm + r0) with hle | hle
              · go_wp2_with fail
                go_roundw
                case rel =>
                  obtain ⟨hO, hP, k2, hB⟩ := REL.out
                  exact ⟨i + 1, by omega, by omega, rfl, rfl, rfl, by go_num, HNO.out (.inr (.inr hle)), hO, hP, k2, hw5, hB⟩
                case measure => simp [intOf]; omega
              · obtain ⟨hO, hP, k2, hB⟩ := REL.out
                have kX := KXX.out
                clear REL
                go_upto_region 13 with fail
                go_wp2_with (at_builtin; refine wpList_app1 rfl _ _ 25 rfl 3 i0 _ 8 Try.underlying25 hi0 hz0 hz1 hz2 rfl (sb + 1) u13 L.length _ (.int .i64 (i : Int)) W5 rfl hO rfl rfl (by unfold maxLen; omega) (by omega) (by omega) ?_; intro g1 cap1 w7 hS7 hg7 hat7 hlt7; have kX7 := kX.grown hg7 (fun e => by have := (HVL.out _ e.symm).2; have := HX.out; omega); have z1 := (kX7.cell 1).trans rfl; have z2 := (kX7.cell 2).trans rfl; have lX7 := kX7.lt; have REL := Lib.hid (And.intro hS7 (And.intro (hP.grown hg7 (base := sb) (fun j e => by have := (HVL.out _ e).1; omega) hlG (fun a ha => by have := HLB.out a ha; have := HSB.out; omega)) (And.intro (k2.grown hg7 (fun e => by have := (HVL.out _ e.symm).1; omega)) (And.intro hg7.size (hB.grown hg7 (by have := HSB.out; omega) (fun j e => by have := (HVL.out _ e).1; have := HSB.out; omega)))))); clear hS7 hg7 hat7 kX7 kX hO hP k2 hB)
                go_roundw
                case rel =>
                  obtain ⟨hS7, hP7, k7, hs7, hB7⟩ := REL.out
                  refine ⟨k', q, left - mm, L ++ [i], by omega, hqN, rfl, by go_num, by go_num, ?_, by simp; omega, by omega, ?_, hP7, k7, by omega, hB7⟩
                  · rw [HYES.out rfl rfl hle, List.append_assoc]
                    rfl
                  · rw [List.length_append, ← nlist_snoc]
                    exact hS7
                case measure => simp [intOf]
          · have efp : ((f : Int) == (p : Int)) = false := by rw [beq_eq_false_iff_ne]; omega
            go_wp2_with fail
            go_roundw
            case rel =>
              obtain ⟨hO, hP, k2, hB⟩ := REL.out
              exact ⟨i + 1, by omega, by omega, rfl, rfl, rfl, by go_num, HNO.out (.inl hfp), hO, hP, k2, hw5, hB⟩
            case measure => simp [intOf]; omega
        · obtain rfl : i = bs.length := by omega
          have REL := Lib.hid (And.intro hO (And.intro hP (And.intro k2 hB)))
          clear hO hP k2 hB
          go_wp2_with fail
          go_roundw
          case rel =>
            obtain ⟨hO, hP, k2, hB⟩ := REL.out
            refine ⟨k', p, left, L, by omega, hp, rfl, rfl, by go_num, ?_, by omega, by omega, hO, hP, k2, hws, hB⟩
            rw [HFOL.out, Ln.folF_none]
            rw [List.find?_range_eq_none]
            intro j hj
            simp [HPRE.out j hj]
          case measure => simp [intOf]
    · obtain rfl : k = 0 := by omega
      have REL := Lib.hid (And.intro hO hB)
      clear hO hP k2 hB
      go_wp2_with fail
      go_ret
      refine ⟨_, rfl, ?_, by rw [HSB.out]; exact REL.out.2⟩
      have h9 : fo = L := by rw [HFOL.out, Ln.folF, List.append_nil]
      rw [h9, HSB.out]
      exact own_back REL.out.1 (by omega)


end Go.Proofs.Yteiaofgkmgllcaa
