/-
  The reference's Consistent and Circle.
-/
import Derived.Test.YteiaofgkmgllcaaCirM
import Derived.Test.YteiaofgkmgllcaaStpO
import Derived.Test.YteiaofgkmgllcaaConR
import Derived.Test.YteiaofgkmgllcaaChk
import Derived.Test.YteiaofgkmgllcaaConcat
set_option linter.unusedVariables false
set_option linter.unusedSimpArgs false
namespace Go.Proofs.Yteiaofgkmgllcaa
open Go.RowKit Go.Shelf

namespace Ln
def ciP (bs : List Bd) (i k : Nat) : Bool := (rowG bs (i + 1) (bd bs i).f.toNat k (bd bs i).t.toNat).2 && decide ((bd bs i).m + (rowG bs (i + 1) (bd bs i).f.toNat k (bd bs i).t.toNat).1 < 0)
theorem ciK_hit {bs : List Bd} {n i k : Nat} (h1 : 1 ≤ k) (hk : k < n) (hno : ∀ j, 1 ≤ j → j < k → ciP bs i j = false) (hy : ciP bs i k = true) : ciK bs n i = some k := by
  unfold ciK
  rw [List.find?_eq_some_iff_append]
  refine ⟨by simpa [ciP] using hy, List.range' 1 (k - 1), List.range' (k + 1) (n - 1 - k), ?_, fun j hj => ?_⟩
  · rw [show k :: List.range' (k + 1) (n - 1 - k) = List.range' k (n - 1 - k + 1) from by rw [List.range'_succ], show List.range' k (n - 1 - k + 1) = List.range' (1 + 1 * (k - 1)) (n - 1 - k + 1) from by rw [show 1 + 1 * (k - 1) = k from by omega], List.range'_append, show k - 1 + (n - 1 - k + 1) = n - 1 from by omega]
  · obtain ⟨a, b⟩ := List.mem_range'_1.1 hj
    show (!(ciP bs i j)) = true
    rw [hno j a (by omega)]
    rfl
theorem ciK_miss {bs : List Bd} {n i : Nat} (hno : ∀ j, 1 ≤ j → j < n → ciP bs i j = false) : ciK bs n i = none := by
  unfold ciK
  rw [List.find?_eq_none]
  intro j hj
  obtain ⟨a, b⟩ := List.mem_range'_1.1 hj
  show ¬ (ciP bs i j = true)
  rw [hno j a (by omega)]
  simp
theorem folF_le (bs : List Bd) (n : Nat) (R : Nat → Nat → Int × Bool) (k p : Nat) (most : Int) : (folF bs n R k p most).length ≤ k := by
  induction k generalizing p most with
  | zero => simp [folF]
  | succ k ih =>
    rcases h : (List.range bs.length).find? (folP bs n (R k) p most) with _ | i
    · rw [folF_none h]
      have := ih p most
      omega
    · rw [folF_some h, List.length_cons]
      have := ih (bd bs i).t.toNat (most - (bd bs i).m)
      omega
theorem ne_check {N : Int} {bs : List Bd} (h : check N bs = 0) : ∀ b ∈ bs, b.f.toNat ≠ b.t.toNat := by
  intro b hb
  have hok := (ok_of_check h).1.each b hb
  unfold check at h
  split at h
  · cases h
  · split at h
    · cases h
    · split at h
      · rename_i h3
        have := valid_iff.1 (List.all_eq_true.1 h3 _ hb)
        omega
      · cases h
end Ln

theorem own_capC {w : World} {base : Nat} {e : TypeId} {size : Nat} {v : Value} {n : Nat} {xs : List Value} (h : w.ownsRow base e size v n xs) :
    ∃ A c, v = .slice A n c ∧ n ≤ c ∧ Rd w w.heap.size size A n xs := by
  rcases h.2 with ⟨rfl, h0⟩ | ⟨g, cap, cur, rfl, _, hg, hc, _⟩
  · exact ⟨none, 0, by rw [h0], by omega, h.1, fun hn => absurd hn (by omega)⟩
  · refine ⟨_, _, rfl, hc, h.1, fun hn => ⟨g, 0, rfl, (Array.getElem?_eq_some_iff.1 hg).1, fun j hj => ?_⟩⟩
    rw [Nat.zero_add]
    exact h.cellAt j hj
theorem nlist_one (l : List Nat) : ∀ u ∈ nlist l, u.oneCell' = true := by
  intro u hu
  simp only [nlist, List.mem_map] at hu
  obtain ⟨x, _, rfl⟩ := hu
  rfl

section
variable (N : Int) (A : Option Addr) (c : Nat) (bs : List Ln.Bd) (w : World)

set_option maxRecDepth 100000 in
set_option maxHeartbeats 1000000 in
theorem rConsistent_any (hR : Rd w w.heap.size 4 A bs.length (bcells bs)) (hc : Ln.Lv bs) :
    Calls Try.prog 9 #[.agg #[.int .i64 N, .slice A bs.length c]] w fun e w' => e = .returned (.tuple #[.bool (Ln.coF N bs).1, .int .i64 (Ln.coF N bs).2]) ∧ Below w.heap.size w w' := by
  have hB0 : Below w.heap.size w (w.alloc (.cells #[.int .i64 N, .slice A bs.length c] 24)) := (Below.refl _ _).alloc (Nat.le_refl _) _
  have hR1 := (hR.below hB0 (Nat.le_refl _)).more hB0.size
  have kS := Bk.new w 24 #[.int .i64 N, .slice A bs.length c]
  have hCK := rcheck_any N A c bs _ hR1 hc.len
  obtain ⟨r, hr⟩ : ∃ r, Ln.coF N bs = r := ⟨_, rfl⟩
  rw [hr]
  rw [Ln.coF] at hr
  by_cases hs : Ln.check N bs = 0
  · obtain ⟨hok, hNt⟩ := Ln.ok_of_check hs
    rw [if_pos hs] at hr
    rw [hs] at hCK
    obtain ⟨n, hn⟩ : ∃ n, N.toNat = n := ⟨_, rfl⟩
    rw [hn] at hok hNt hr
    subst hNt
    have HCN := Lib.hid fun w hR => rconsistent_any hok hc.live A c w hR
    have hcr := Ln.consR_eq hok hc.live
    have HR := Lib.hid hr
    have HCK := Lib.hid hCK
    have HCR := Lib.hid hcr
    clear hs hr hCK hok hn hcr
    go_enter Try.func9, Try.ntmps9
    go_wp2_with fail
    refine HCK.out.mono ?_
    rintro e w1 ⟨rfl, hb1⟩
    have k1 := kS.below hb1 (by simp)
    have hB1 := hB0.trans (hb1.mono hB0.size)
    have hR2 := (hR.below hB1 (Nat.le_refl _)).more hB1.size
    have c0 := (k1.cell 0).trans rfl
    have c1 := (k1.cell 1).trans rfl
    have cl := k1.lt
    go_wp2_with fail
    refine (HCN.out _ hR2).mono ?_
    rw [HCR.out]
    rintro e w2 ⟨rfl, hb2⟩
    go_wp2_with fail
    go_ret2
    have hr := HR.out
    subst hr
    exact ⟨rfl, hB1.trans (hb2.mono hB1.size)⟩
  · rw [if_neg hs] at hr
    have hne : (Ln.check N bs != 0) = true := by simp [hs]
    obtain ⟨s, hss⟩ : ∃ s, Ln.check N bs = s := ⟨_, rfl⟩
    rw [hss] at hne hCK hr
    have HR := Lib.hid hr
    have HCK := Lib.hid hCK
    clear hr hCK hs hss
    go_enter Try.func9, Try.ntmps9
    go_wp2_with fail
    refine HCK.out.mono ?_
    rintro e w1 ⟨rfl, hb9⟩
    go_wp2_with fail
    go_ret2
    have hr := HR.out
    subst hr
    exact ⟨rfl, hB0.trans (hb9.mono hB0.size)⟩
end

set_option maxRecDepth 100000 in
set_option maxHeartbeats 8000000 in
theorem rcircle_any (N : Int) (A : Option Addr) (c : Nat) (bs : List Ln.Bd) (w : World) (hR : Rd w w.heap.size 4 A bs.length (bcells bs)) (hc : Ln.Lv bs) (h14 : Ln.check N bs = 0 → N ≤ 14) :
    Calls Try.prog 11 #[.agg #[.int .i64 N, .slice A bs.length c]] w fun e w' => ∃ A' c', e = .returned (.tuple #[.slice A' (Ln.ciF N bs).1.length c', .bool (Ln.ciF N bs).2.1, .int .i64 (Ln.ciF N bs).2.2]) ∧
      Rd w' w'.heap.size 1 A' (Ln.ciF N bs).1.length (nlist (Ln.ciF N bs).1) ∧ Below w.heap.size w w' := by
  obtain ⟨i0, hi0, hz0, hz1, hz2⟩ := info_parts info3
  have hB0 : Below w.heap.size w (w.alloc (.cells #[.int .i64 N, .slice A bs.length c] 24)) := (Below.refl _ _).alloc (Nat.le_refl _) _
  have hR1 := (hR.below hB0 (Nat.le_refl _)).more hB0.size
  have kS := Bk.new w 24 #[.int .i64 N, .slice A bs.length c]
  have hCK := rcheck_any N A c bs _ hR1 hc.len
  obtain ⟨r, hr⟩ : ∃ r, Ln.ciF N bs = r := ⟨_, rfl⟩
  rw [hr]
  rw [Ln.ciF] at hr
  by_cases hs : Ln.check N bs = 0
  · obtain ⟨hok, hNt⟩ := Ln.ok_of_check hs
    have hnn := Ln.ne_check hs
    have h14' := h14 hs
    rw [if_pos hs] at hr
    rw [hs] at hCK
    obtain ⟨n, hn⟩ : ∃ n, N.toNat = n := ⟨_, rfl⟩
    rw [hn] at hok hNt hr
    subst hNt
    have HCN := Lib.hid fun w hR => rconsistent_any hok hc.live A c w hR
    have hcr := Ln.consR_eq hok hc.live
    have HCK := Lib.hid hCK
    clear hs hCK hn
    rcases hco : Ln.consF bs n with _ | _
    · rw [hco, if_neg (by simp)] at hr
      rw [hco] at hcr
      have hneg : ¬ Ln.NoNeg bs := fun h => by rw [(Ln.cons_iff hok).2 h] at hco; cases hco
      have href := fun s (h : Ln.CIv bs n 0 s) => Ln.circ_ref hok hc.live hnn hneg h
      have hstep := fun j (hj : j < bs.length) s (h : Ln.CIv bs n (j + 1) s) => Ln.ciS_ok hc.live hnn hj h
      have heach := fun (i : Nat) (hi : i < bs.length) => hok.each _ (Ln.bd_mem hi)
      have hsml := fun n0 b k v => Ln.rowG_small hok n0 b k v
      have hlen : bs.length ≤ 2002 := hok.len
      have hst := fun i b (hi : i < bs.length) (hb : b < n) w hR => rsteps_any hok hc.live (by omega) A c b n (i + 1) hb (by omega) (i : Int) (by omega) (by omega) w hR
      have hfo := fun G blk b a i k d (ha : a < n) (hi : i < bs.length) (hk : k ≤ n + 1) (hd : -100000000000 ≤ d ∧ d ≤ 100000000000) w hR hF => rfollow_any hok (by omega) A c G (n + 1) blk (Ln.rowG bs (i + 1) b) (fun k v hk => by have := Ln.rowG_small hok (i + 1) b k v; omega) a k (i + 1) ha hk (by omega) (i : Int) (by omega) (by omega) d hd w hR hF
      have hci0 := Ln.ci_start (bs := bs) (N := n)
      have hpos := hok.pos
      have HR := Lib.hid hr
      have HCR := Lib.hid hcr
      have HREF := Lib.hid href
      have HSTEP := Lib.hid hstep
      have HEACH := Lib.hid heach
      have HSML := Lib.hid hsml
      have HST := Lib.hid hst
      have HFO := Lib.hid hfo
      have HCI := Lib.hid hci0
      clear hr hcr hco hneg href hstep heach hsml hst hfo hci0 hok hnn
      go_enter Try.func11, Try.ntmps11
      go_wp2_with fail
      refine HCK.out.mono ?_
      rintro e w1 ⟨rfl, hb1⟩
      have k1 := kS.below hb1 (by simp)
      have hB1 := hB0.trans (hb1.mono hB0.size)
      have hR2 := (hR.below hB1 (Nat.le_refl _)).more hB1.size
      have c0 := (k1.cell 0).trans rfl
      have c1 := (k1.cell 1).trans rfl
      have cl := k1.lt
      go_wp2_with fail
      refine (HCN.out _ hR2).mono ?_
      rw [HCR.out]
      rintro e w2 ⟨rfl, hb2⟩
      have k2 := k1.below hb2 k1.lt
      have hB2 := hB1.trans (hb2.mono hB1.size)
      clear k1 c0 c1 cl hB1 hR2 kS hB0 hR1
      have c0 := (k2.cell 0).trans rfl
      have c1 := (k2.cell 1).trans rfl
      have cl := k2.lt
      go_wp2_with fail
      obtain ⟨sb, hsb⟩ : ∃ sb, w.heap.size = sb := ⟨_, rfl⟩
      rw [hsb] at k2 c0 c1 cl ⊢
      have HSB0 := Lib.hid hsb
      clear hsb
      go_loopw [7, 8, 9] (fun L F I wr => ∃ (j : Nat) (s : Nat × Nat), j ≤ bs.length ∧ I = .int .i64 ((j : Int) - 1) ∧ L = .int .i64 (s.1 : Int) ∧ F = .int .i64 (s.2 : Int) ∧ Ln.CIv bs n j s ∧
          Bk wr sb 24 #[.int .i64 (n : Int), .slice A bs.length c] ∧ Below w.heap.size w wr)
        (fun _ _ I _ => (intOf I + 1).toNat)
      case atStart => exact ⟨bs.length, (0, 0), Nat.le_refl _, rfl, rfl, rfl, HCI.out, k2, hB2⟩
      case round =>
        clear k2 hB2 c0 c1 cl
        obtain ⟨j, ⟨s1, s2⟩, hj, rfl, rfl, rfl, hCI, k2, hB⟩ := hrel
        dsimp only
        have c0 := (k2.cell 0).trans rfl
        have c1 := (k2.cell 1).trans rfl
        have cl := k2.lt
        by_cases hj0 : 0 < j
        · obtain ⟨i, rfl⟩ : ∃ i, j = i + 1 := ⟨j - 1, by omega⟩
          have hil : i < bs.length := by omega
          have hie : ((i + 1 : Nat) : Int) - 1 = (i : Int) := by omega
          rw [hie]
          obtain ⟨b', off, rfl, hb, e0, e1, e2, e3⟩ := (hR.below hB (Nat.le_refl _)).bound hil
          rw [← Ln.bd_eq hil] at e0 e1 e2 e3
          have hea := HEACH.out i hil
          have hcS := HSTEP.out i hil (s1, s2) hCI
          have hhit := fun k => Ln.ciK_hit (bs := bs) (n := n) (i := i) (k := k)
          have hmiss := Ln.ciK_miss (bs := bs) (n := n) (i := i)
          have hciP : ∀ k, Ln.ciP bs i k = ((Ln.rowG bs (i + 1) (Ln.bd bs i).f.toNat k (Ln.bd bs i).t.toNat).2 && decide ((Ln.bd bs i).m + (Ln.rowG bs (i + 1) (Ln.bd bs i).f.toNat k (Ln.bd bs i).t.toNat).1 < 0)) := fun k => rfl
          obtain ⟨⟨bf, bt, bm, br, bg⟩, hx⟩ : ∃ x, Ln.bd bs i = x := ⟨_, rfl⟩
          simp only [hx] at e0 e1 e2 e3 hea hciP
          obtain ⟨⟨f0, f1⟩, ⟨t0, t1⟩, m0, m1⟩ := hea
          obtain ⟨p, rfl⟩ : ∃ p : Nat, bf = p := ⟨bf.toNat, by omega⟩
          obtain ⟨q, rfl⟩ : ∃ q : Nat, bt = q := ⟨bt.toNat, by omega⟩
          simp only [Int.toNat_natCast] at hciP
          have hpn : p < n := by omega
          have hqn : q < n := by omega
          have hb' : b' < wr.heap.size := Nat.lt_of_lt_of_le hb hB.size
          have hi0' : (0 : Int) ≤ (i : Int) := Int.natCast_nonneg _
          have hi1' : (i : Int) < bs.length := by omega
          have hB1x := (Below.refl wr.heap.size wr).alloc (Nat.le_refl _) (.cells #[.int .i64 (p : Int), .int .i64 (q : Int), .int .i64 bm, .int .i64 br] 50)
          have kX := Bk.new wr 50 #[.int .i64 (p : Int), .int .i64 (q : Int), .int .i64 bm, .int .i64 br]
          have REL := Lib.hid (And.intro (k2.alloc (.cells #[.int .i64 (p : Int), .int .i64 (q : Int), .int .i64 bm, .int .i64 br] 50)) (And.intro (hB.trans (hB1x.mono hB.size)) kX))
          have HCS := Lib.hid hcS
          have HHIT := Lib.hid hhit
          have HMISS := Lib.hid hmiss
          have HCP := Lib.hid hciP
          have HCI2 := Lib.hid hCI
          clear k2 hB kX hB1x hcS hhit hmiss hciP hCI hx hie hb
          go_upto_region 13 with fail
          obtain ⟨k2, hB, kX⟩ := REL.out
          obtain ⟨X, hX⟩ : ∃ X, wr.heap.size = X := ⟨_, rfl⟩
          obtain ⟨W1, hW1⟩ : ∃ W1, wr.alloc (.cells #[.int .i64 (p : Int), .int .i64 (q : Int), .int .i64 bm, .int .i64 br] 50) = W1 := ⟨_, rfl⟩
          rw [hX] at kX hb' cl ⊢
          rw [hW1] at k2 hB kX ⊢
          clear REL hX hW1 e0 e1 e2 e3 c0 c1 cl hb'
          have c0 := (k2.cell 0).trans rfl
          have c1 := (k2.cell 1).trans rfl
          have cl := k2.lt
          have x0 := (kX.cell 0).trans rfl
          have x1 := (kX.cell 1).trans rfl
          have x2 := (kX.cell 2).trans rfl
          have lX := kX.lt
          have hR3 := (hR.below hB (Nat.le_refl _)).more hB.size
          go_wp2_with fail
          refine (HST.out i p hil hpn _ hR3).mono ?_
          rintro e w4 ⟨G, blk, rfl, hP, hb4⟩
          have k4 := k2.below hb4 k2.lt
          have kX4 := kX.below hb4 kX.lt
          have hB4 := hB.trans (hb4.mono hB.size)
          clear k2 kX hB c0 c1 x0 x1 x2 hR3 hb4 cl lX
          go_wp2_with fail
          go_loopw [7, 8, 12] (fun L F K wq => L = .int .i64 (s1 : Int) ∧ F = .int .i64 (s2 : Int) ∧ ∃ k : Nat, 1 ≤ k ∧ (k ≤ n ∨ k = 1) ∧ K = .int .i64 (k : Int) ∧ (∀ j, 1 ≤ j → j < k → Ln.ciP bs i j = false) ∧ SP wq G (n + 1) n (n + 1) blk (Ln.rowG bs (i + 1) p) ∧
              Bk wq sb 24 #[.int .i64 (n : Int), .slice (some ⟨b', off, none⟩) bs.length c] ∧ Bk wq X 50 #[.int .i64 (p : Int), .int .i64 (q : Int), .int .i64 bm, .int .i64 br] ∧ Below w.heap.size w wq)
            (fun _ _ K _ => n + 1 - (intOf K).toNat)
          case atStart => exact ⟨rfl, rfl, 1, Nat.le_refl _, .inr rfl, rfl, fun j h1 h2 => by omega, hP, k4, kX4, hB4⟩
          case round =>
            clear hP k4 kX4 hB4
            obtain ⟨rfl, rfl, k, hk1, hk2, rfl, hno, hP, k4, kX, hB⟩ := hrel
            have c0 := (k4.cell 0).trans rfl
            have c1 := (k4.cell 1).trans rfl
            have x1 := (kX.cell 1).trans rfl
            have x2 := (kX.cell 2).trans rfl
            have lX := kX.lt
            have cl := k4.lt
            have hk0 : (0 : Int) ≤ (k : Int) := Int.natCast_nonneg _
            have hn14 : (n : Int) ≤ 14 := h14'
            have hq0 : (0 : Int) ≤ (q : Int) := Int.natCast_nonneg _
            have hqi : (q : Int) < (n : Int) := by omega
            by_cases hkn : k < n
            · have hkm : (k : Int) < (n : Int) + 1 := by omega
              have hki : (k : Int) < (n : Int) := by omega
              have o1 := hP.cellO (a := k) (by omega) (by omega)
              obtain ⟨v1, v2⟩ := hP.cells (a := k) (by omega) hqn
              have lG := hP.out.lt
              have lr := (hP.row k (by omega)).lt
              have hp := HCP.out k
              have hsm := HSML.out (i + 1) p k q
              obtain ⟨⟨u, z⟩, hz⟩ : ∃ z, Ln.rowG bs (i + 1) p k q = z := ⟨_, rfl⟩
              simp only [hz] at v1 v2 hp hsm
              have hu : -20000000 ≤ u ∧ u ≤ 20000000 := by omega
              have HP := Lib.hid hp
              have HNO := Lib.hid hno
              have REL := Lib.hid (And.intro hP (And.intro k4 (And.intro kX hB)))
              have hw1 : IntKind.i64.wrap (bm + u) = bm + u := IntWalk.i64_in _ (by omega)
              have hz2 : (z = false ∨ (z = true ∧ 0 ≤ bm + u)) ∨ (z = true ∧ bm + u < 0) := by
                rcases z with _ | _
                · exact .inl (.inl rfl)
                · rcases Int.lt_or_le (bm + u) 0 with h | h
                  · exact .inr ⟨rfl, h⟩
                  · exact .inl (.inr ⟨rfl, h⟩)
              clear hP k4 kX hB hz hp hno hsm
              rcases hz2 with hz2 | ⟨rfl, hlt⟩
              · have hpf : Ln.ciP bs i k = false := by
                  rw [HP.out]
                  rcases hz2 with rfl | ⟨rfl, h⟩
                  · rfl
                  · simp; omega
                have HPF := Lib.hid hpf
                clear hpf
                rcases hz2 with rfl | ⟨rfl, hge⟩
                · go_wp2_with fail
                  go_quiet (fail)
                  go_wp2_with fail
                  go_roundw
                  case rel =>
                    obtain ⟨hP, k4, kX, hB⟩ := REL.out
                    exact ⟨rfl, rfl, k + 1, by omega, .inl (by omega), by go_num, fun j h1 h2 => by
                      rcases Nat.lt_or_ge j k with h | h
                      · exact HNO.out j h1 h
                      · obtain rfl : j = k := by omega
                        exact HPF.out, hP.below (below_drewN (Below.refl _ _) _), k4.below (below_drewN (Below.refl _ _) _) cl, kX.below (below_drewN (Below.refl _ _) _) lX, below_drewN hB _⟩
                  case measure => first | (simp [intOf]; done) | (simp [intOf]; omega)
                · have hd : decide (bm + u < 0) = false := decide_eq_false (by omega)
                  go_wp2_with fail
                  go_quiet (fail)
                  go_wp2_with fail
                  go_roundw
                  case rel =>
                    obtain ⟨hP, k4, kX, hB⟩ := REL.out
                    exact ⟨rfl, rfl, k + 1, by omega, .inl (by omega), by go_num, fun j h1 h2 => by
                      rcases Nat.lt_or_ge j k with h | h
                      · exact HNO.out j h1 h
                      · obtain rfl : j = k := by omega
                        exact HPF.out, hP.below (below_drewN (Below.refl _ _) _), k4.below (below_drewN (Below.refl _ _) _) cl, kX.below (below_drewN (Below.refl _ _) _) lX, below_drewN hB _⟩
                  case measure => first | (simp [intOf]; done) | (simp [intOf]; omega)
              · have hd : decide (bm + u < 0) = true := decide_eq_true hlt
                have hck : Ln.ciK bs n i = some k := HHIT.out k hk1 hkn HNO.out (by rw [HP.out]; simp [hlt])
                have hcs := HCS.out
                have hS : Ln.ciS bs n (s1, s2) i = if s1 = 0 ∨ k + 1 ≤ s1 then (k + 1, i) else (s1, s2) := by rw [Ln.ciS, hck]
                rw [hS] at hcs
                clear hck hS
                by_cases h0 : s1 = 0
                · rw [if_pos (.inl h0)] at hcs
                  have HCS2 := Lib.hid hcs
                  subst h0
                  clear hcs
                  go_wp2_with fail
                  go_quiet (fail)
                  go_wp2_with fail
                  go_roundw
                  case rel =>
                    obtain ⟨hP, k4, kX, hB⟩ := REL.out
                    exact ⟨i, (k + 1, i), by omega, by go_num, by go_num, rfl, HCS2.out, k4.below (below_drewN (Below.refl _ _) _) cl, below_drewN hB _⟩
                  case measure => first | (simp [intOf]; done) | (simp [intOf]; omega)
                · have hs0 : decide ((s1 : Int) = 0) = false := decide_eq_false (by omega)
                  have hs0' : ((s1 : Int) == 0) = false := by simp; omega
                  by_cases hle : k + 1 ≤ s1
                  · rw [if_pos (.inr hle)] at hcs
                    have HCS2 := Lib.hid hcs
                    have hle' : (k : Int) + 1 ≤ (s1 : Int) := by omega
                    clear hcs
                    go_wp2_with fail
                    go_quiet (fail)
                    go_wp2_with fail
                    go_roundw
                    case rel =>
                      obtain ⟨hP, k4, kX, hB⟩ := REL.out
                      exact ⟨i, (k + 1, i), by omega, by go_num, by go_num, rfl, HCS2.out, k4.below (below_drewN (Below.refl _ _) _) cl, below_drewN hB _⟩
                    case measure => first | (simp [intOf]; done) | (simp [intOf]; omega)
                  · rw [if_neg (by omega)] at hcs
                    have HCS2 := Lib.hid hcs
                    have hle' : (s1 : Int) < (k : Int) + 1 := by omega
                    clear hcs
                    go_wp2_with fail
                    go_quiet (fail)
                    go_wp2_with fail
                    go_roundw
                    case rel =>
                      obtain ⟨hP, k4, kX, hB⟩ := REL.out
                      exact ⟨i, (s1, s2), by omega, by go_num, rfl, rfl, HCS2.out, k4.below (below_drewN (Below.refl _ _) _) cl, below_drewN hB _⟩
                    case measure => first | (simp [intOf]; done) | (simp [intOf]; omega)
            · have hki : (n : Int) ≤ (k : Int) := by omega
              have hck : Ln.ciK bs n i = none := HMISS.out fun j h1 h2 => hno j h1 (by omega)
              have hcs := HCS.out
              rw [show Ln.ciS bs n (s1, s2) i = (s1, s2) from by rw [Ln.ciS, hck]] at hcs
              have HCS2 := Lib.hid hcs
              have REL := Lib.hid (And.intro hP (And.intro k4 (And.intro kX hB)))
              clear hcs hck hno hP k4 kX hB
              go_wp2_with fail
              go_roundw
              case rel =>
                obtain ⟨hP, k4, kX, hB⟩ := REL.out
                exact ⟨i, (s1, s2), by omega, by go_num, rfl, rfl, HCS2.out, k4, hB⟩
              case measure => first | (simp [intOf]; done) | (simp [intOf]; omega)
        · obtain rfl : j = 0 := by omega
          obtain ⟨hs2a, hs2b, hs2l, hcf⟩ := HREF.out _ hCI
          dsimp only at hs2a hs2b hs2l hcf
          obtain ⟨b', off, rfl, hb, e0, e1, e2, e3⟩ := (hR.below hB (Nat.le_refl _)).bound hs2l
          rw [← Ln.bd_eq hs2l] at e0 e1 e2 e3
          have hea := HEACH.out s2 hs2l
          obtain ⟨⟨bf, bt, bm, br, bg⟩, hx⟩ : ∃ x, Ln.bd bs s2 = x := ⟨_, rfl⟩
          simp only [hx] at e0 e1 e2 e3 hea hcf
          obtain ⟨⟨f0, f1⟩, ⟨t0, t1⟩, m0, m1⟩ := hea
          obtain ⟨p, rfl⟩ : ∃ p : Nat, bf = p := ⟨bf.toNat, by omega⟩
          obtain ⟨q, rfl⟩ : ∃ q : Nat, bt = q := ⟨bt.toNat, by omega⟩
          simp only [Int.toNat_natCast] at hcf
          have hpn : p < n := by omega
          have hqn : q < n := by omega
          have hb' : b' < wr.heap.size := Nat.lt_of_lt_of_le hb hB.size
          have hi0' : (0 : Int) ≤ (s2 : Int) := Int.natCast_nonneg _
          have hi1' : (s2 : Int) < bs.length := by omega
          have hB1x := (Below.refl wr.heap.size wr).alloc (Nat.le_refl _) (.cells #[.int .i64 (p : Int), .int .i64 (q : Int), .int .i64 bm, .int .i64 br] 50)
          have kX := Bk.new wr 50 #[.int .i64 (p : Int), .int .i64 (q : Int), .int .i64 bm, .int .i64 br]
          have REL := Lib.hid (And.intro (k2.alloc (.cells #[.int .i64 (p : Int), .int .i64 (q : Int), .int .i64 bm, .int .i64 br] 50)) (And.intro (hB.trans (hB1x.mono hB.size)) kX))
          have HCF := Lib.hid hcf
          clear k2 hB kX hB1x hcf hCI hx hb
          have hj1 : ((0 : Nat) : Int) - 1 = -1 := rfl
          rw [hj1]
          go_upto_region 22 with fail
          obtain ⟨k2, hB, kX⟩ := REL.out
          obtain ⟨X, hX⟩ : ∃ X, wr.heap.size = X := ⟨_, rfl⟩
          obtain ⟨W1, hW1⟩ : ∃ W1, wr.alloc (.cells #[.int .i64 (p : Int), .int .i64 (q : Int), .int .i64 bm, .int .i64 br] 50) = W1 := ⟨_, rfl⟩
          rw [hX] at kX hb' cl ⊢
          rw [hW1] at k2 hB kX ⊢
          clear REL hX hW1 e0 e1 e2 e3 c0 c1 cl hb'
          have c0 := (k2.cell 0).trans rfl
          have c1 := (k2.cell 1).trans rfl
          have cl := k2.lt
          have x0 := (kX.cell 0).trans rfl
          have x1 := (kX.cell 1).trans rfl
          have x2 := (kX.cell 2).trans rfl
          have lX := kX.lt
          have hSB : ∀ W, Below W1.heap.size W1 W → (W.cell? ⟨sb, 0, none⟩ = some (.int .i64 (n : Int)) ∧ W.cell? ⟨sb, 1, none⟩ = some (.slice (some ⟨b', off, none⟩) bs.length c)) ∧ (W.cell? ⟨X, 0, none⟩ = some (.int .i64 (p : Int)) ∧ W.cell? ⟨X, 1, none⟩ = some (.int .i64 (q : Int)) ∧ W.cell? ⟨X, 2, none⟩ = some (.int .i64 bm)) := fun W hb =>
            ⟨⟨(hb.cell (p := ⟨sb, 0, none⟩) cl).trans c0, (hb.cell (p := ⟨sb, 1, none⟩) cl).trans c1⟩, (hb.cell (p := ⟨X, 0, none⟩) lX).trans x0, (hb.cell (p := ⟨X, 1, none⟩) lX).trans x1, (hb.cell (p := ⟨X, 2, none⟩) lX).trans x2⟩
          have hR3 : ∀ W, Below W1.heap.size W1 W → Rd W W.heap.size 4 (some ⟨b', off, none⟩) bs.length (bcells bs) := fun W hb => (hR.below (hB.trans (hb.mono hB.size)) (Nat.le_refl _)).more (hB.trans (hb.mono hB.size)).size
          have hst1 := fun W (hb : Below W1.heap.size W1 W) => HST.out s2 p hs2l hpn W (hR3 W hb)
          have hfo1 := fun G blk W (hb : Below W1.heap.size W1 W) hF => HFO.out G blk p q s2 (s1 - 1) (-1 - bm) hqn hs2l (by omega) (by omega) W (hR3 W hb) hF
          have hk1 : (((s1 - 1 : Nat)) : Int) = (s1 : Int) - 1 := by omega
          rw [hk1] at hfo1
          have hw1 : IntKind.i64.wrap ((s1 : Int) - 1) = (s1 : Int) - 1 := IntWalk.i64_in _ (by omega)
          have hw2 : IntKind.i64.wrap (-1 - bm) = -1 - bm := IntWalk.i64_in _ (by omega)
          have HSB := Lib.hid hSB
          have HS1 := Lib.hid hst1
          have HF1 := Lib.hid hfo1
          have hbZ : Below W1.heap.size W1 W1.drew := (Below.refl _ _).drew
          clear hSB hst1 hfo1 hR3 c0 c1 x0 x1 x2 hk1 kX
          have REL := Lib.hid (And.intro k2 hB)
          clear k2 hB
          obtain ⟨rest, hrest⟩ : ∃ rest, Ln.folF bs (s2 + 1) (Ln.rowG bs (s2 + 1) p) (s1 - 1) q (-1 - bm) = rest := ⟨_, rfl⟩
          have HRS := Lib.hid hrest
          clear hrest
          go_cut [14] (fun s14 wx => ∃ wm, Below W1.heap.size W1 wm ∧ wx.ownsRow wm.heap.size 3 1 s14 rest.length (nlist rest) ∧ Below W1.heap.size W1 wx)
          case first =>
            go_region_held3 (fun w' => (w'.cell? ⟨sb, 0, none⟩ = some (.int .i64 (n : Int)) ∧ w'.cell? ⟨sb, 1, none⟩ = some (.slice (some ⟨b', off, none⟩) bs.length c)) ∧ (w'.cell? ⟨X, 0, none⟩ = some (.int .i64 (p : Int)) ∧ w'.cell? ⟨X, 1, none⟩ = some (.int .i64 (q : Int)) ∧ w'.cell? ⟨X, 2, none⟩ = some (.int .i64 bm)))
              (first
                | (with_reducible exact HSB.out _ hbD) | (with_reducible exact HSB.out _ hbC) | (with_reducible exact HSB.out _ hbZ)
                | ((try dsimp only); first | (with_reducible exact HSB.out _ hbD) | (with_reducible exact HSB.out _ hbC))
                | go_keep)
              (first
                | (go_at_call 39; refine (HS1.out _ hbZ).mono ?_; rintro e w3 ⟨G, blk, rfl, hP, hb3⟩; have hbC : Below W1.heap.size W1 w3 := hbZ.trans (hb3.mono hbZ.size))
                | (go_at_call 40; refine (HF1.out G blk w3 hbC hP).mono ?_; rintro e w4 ⟨V, rfl, hV, hb4⟩; have hbD : Below W1.heap.size W1 w4 := hbC.trans (hb4.mono hbC.size); rw [HRS.out] at hV))
            all_goals
              go_wp2_with fail
              go_meet
              exact ⟨w3, hbC, hV, hbD⟩
          case rest =>
            obtain ⟨wm, hbm, hV, hbx⟩ := hcut
            obtain ⟨Av, cv, rfl, hcv, hrv⟩ := own_capC hV
            have hbW := (Below.refl wc.heap.size wc).alloc (Nat.le_refl _) (.cells #[.int .i64 (s2 : Int)] 3)
            have hown0 : (wc.alloc (.cells #[.int .i64 (s2 : Int)] 3)).ownsRow wc.heap.size 3 1 (.slice (some ⟨wc.heap.size, 0, none⟩) 1 1) 1 [.int .i64 (s2 : Int)] := World.ownsRow_lit wc #[.int .i64 (s2 : Int)] 1 (Nat.le_refl _) (by unfold maxLen; omega) rfl
            have hrv2 := (hrv.below hbW (Nat.le_refl _)).more hbW.size
            have hfl := HRS.out
            have hfl2 : rest.length ≤ s1 - 1 := by rw [← hfl]; exact Ln.folF_le _ _ _ _ _ _
            have hB1 := REL.out.2
            have hbV := hbx
            have HFIN := Lib.hid (And.intro hB1 hbx)
            clear hV hrv hfl hbx hbm hB1 hbV
            go_wp2_with (at_builtin; refine wpList_append_rd rfl (.tmp 107) (.tmp 108) 25 rfl wc.heap.size 3 i0 _ 1 8 Try.underlying25 hi0 hz0 hz1 hz2 rfl (by omega) (.slice (some ⟨wc.heap.size, 0, none⟩) 1 1) 1 [.int .i64 (s2 : Int)] rfl hown0 Av rest.length cv _ (nlist rest) rfl hrv2 (nlist_one _) (by unfold maxLen; omega) (by omega) (by simp) ?_; intro v1 w2 hown1 hg1 hat1; rw [Nat.add_comm 1 rest.length] at hown1; obtain ⟨A5, c5, rfl, hc5, hr5⟩ := own_capC hown1)
            go_ret3
            obtain ⟨hB1, hbx⟩ := HFIN.out
            have hB2 := hB1.trans (hbx.mono hB1.size)
            have hb3 : Below wc.heap.size wc w2 := hbW.grown hg1 (by simp) (fun j e => (hown0.lt j e).1)
            have hr := HR.out
            rw [HCF.out, HRS.out] at hr
            subst hr
            refine ⟨A5, c5, ?_, ?_, hB2.trans (hb3.mono hB2.size)⟩
            · rfl
            · have : nlist (s2 :: rest) = [.int .i64 (s2 : Int)] ++ nlist rest := rfl
              rw [this, List.length_cons]
              exact hr5
    · rw [hco, if_pos rfl] at hr
      rw [hco] at hcr
      have HR := Lib.hid hr
      have HCR := Lib.hid hcr
      clear hr hcr hco hok hnn
      go_enter Try.func11, Try.ntmps11
      go_wp2_with fail
      refine HCK.out.mono ?_
      rintro e w1 ⟨rfl, hb1⟩
      have k1 := kS.below hb1 (by simp)
      have hB1 := hB0.trans (hb1.mono hB0.size)
      have hR2 := (hR.below hB1 (Nat.le_refl _)).more hB1.size
      have c0 := (k1.cell 0).trans rfl
      have c1 := (k1.cell 1).trans rfl
      have cl := k1.lt
      go_wp2_with fail
      refine (HCN.out _ hR2).mono ?_
      rw [HCR.out]
      rintro e w2 ⟨rfl, hb2⟩
      go_wp2_with fail
      go_ret3
      have hr := HR.out
      subst hr
      exact ⟨none, 0, rfl, Rd.nil _ _ _ _, hB1.trans (hb2.mono hB1.size)⟩
  · rw [if_neg hs] at hr
    have hne : (Ln.check N bs != 0) = true := by simp [hs]
    obtain ⟨s, hss⟩ : ∃ s, Ln.check N bs = s := ⟨_, rfl⟩
    rw [hss] at hne hCK hr
    have HR := Lib.hid hr
    have HCK := Lib.hid hCK
    clear hr hCK hs hss
    go_enter Try.func11, Try.ntmps11
    go_wp2_with fail
    refine HCK.out.mono ?_
    rintro e w1 ⟨rfl, hb9⟩
    go_wp2_with fail
    go_ret3
    have hr := HR.out
    subst hr
    exact ⟨none, 0, rfl, Rd.nil _ _ _ _, hB0.trans (hb9.mono hB0.size)⟩

end Go.Proofs.Yteiaofgkmgllcaa
