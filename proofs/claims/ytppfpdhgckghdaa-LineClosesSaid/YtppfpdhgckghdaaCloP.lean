/-
  Close.
-/
import Derived.Test.YtppfpdhgckghdaaClo
import Derived.Test.YtppfpdhgckghdaaWo
import Derived.Test.YtppfpdhgckghdaaApo
import Derived.Test.YtppfpdhgckghdaaSomeb
import Derived.Test.YtppfpdhgckghdaaBetw
set_option linter.unusedVariables false
set_option linter.unusedSimpArgs false
namespace Go.Proofs.Ytppfpdhgckghdaa
open Go.RowKit

theorem bcells_one1 (b : Ln.Bd) : bcells [b] = bcell b := by simp [bcells]
/-- append of one bound that lies in a new block of its own. -/
theorem wpList_appB {ops : Array Oper} {rest : List Oper} {o : Oper} {a : Act} {Q : Exit → Act → World → Prop} (hgd : o.guard = none) (s x : Operand)
    (ho : o.op = .call { callee := .builtin .append, args := #[s, x], argTypes := #[22, 22] })
    (base : Nat) (v : Value) (l : List Ln.Bd) (b : Ln.Bd) (w : World) (hs : a.eval s = v) (hown : w.ownsRow base 63 4 v l.length (bcells l)) (hx : a.eval x = .slice (some ⟨w.heap.size, 0, none⟩) 1 1)
    (h63 : l.length ≤ 1000000) (hbase : base ≤ w.heap.size)
    (h : ∀ g cap w', w'.ownsRow base 63 4 (.slice (some ⟨g, 0, none⟩) (l.length + 1) cap) (l ++ [b]).length (bcells (l ++ [b])) → w.grownBy w' v.ownBlock → (v.ownBlock = some g ∨ w.heap.size ≤ g) → g < w'.heap.size → wpList Try.prog ops Q rest (a.put o.dst (.slice (some ⟨g, 0, none⟩) (l.length + 1) cap)) w') :
    wpList Try.prog ops Q (o :: rest) a (w.alloc (.cells #[.int .i64 b.f, .int .i64 b.t, .int .i64 b.m, .int .i64 b.r] 63)) := by
  obtain ⟨i0, hi0, hz0, hz1, hz2⟩ := info_parts info69'
  refine wpList_append_lies _ hgd s x 22 ho base 63 i0 _ 4 32 Try.underlying22 hi0 hz0 hz1 hz2 rfl (by omega) v l.length _ hs (hown.alloc _) ⟨w.heap.size, 0, none⟩ 1 1 [.int .i64 b.f, .int .i64 b.t, .int .i64 b.m, .int .i64 b.r] hx rfl (World.news_of_block (cs := #[.int .i64 b.f, .int .i64 b.t, .int .i64 b.m, .int .i64 b.r]) (t := 63) (fr := (0, 0)) (heap_alloc_new _ _)) (by simp [Value.oneCell']) (by omega) (by unfold maxLen; omega) (by omega) (by simp; omega) (w.heap.size + 1) (by simp)
    fun g cap w' h2 h3 h4 h5 => h g cap w' ?_ (grown_of_alloc h3) (h4.imp id (fun e => by omega)) h5
  rw [bcells_append, bcells_one1, List.length_append]
  exact h2

theorem run_slice_reach (g n : Nat) (hn : n ≤ 128) (w : World) : (Instr.sliceAt 87 (.pointer (some ⟨g, 0, none⟩)) none (some (.int .i64 (n : Int))) none).run Try.prog w = .ok (.slice (some ⟨g, 0, none⟩) n 128) w := by
  have hal : Try.prog.arrayLen 87 = 128 := by kernel_rfl
  have hso : (sizeOf (Try.prog.elem 87)).run Try.prog w = .ok 1 w := by kernel_rfl
  rw [run_sliceAt_array_h w 87 ⟨g, 0, none⟩ (by kernel_rfl) .i64 n (by omega) (by rw [hal]; omega), hso, hal]
  simp [slicedAt, Addr.add, Result.andThen]
theorem grown_setRow (w : World) (g : Nat) (cs : Array Value) : w.grownBy (w.setRow g cs) (some g) :=
  ⟨rfl, rfl, rfl, by rw [size_setRow]; exact Nat.le_refl _, fun k _ hk => by
    simp only [World.setRow, Array.getElem?_modify]
    rw [if_neg (fun e => hk (by rw [e]))]⟩
theorem own_new {w : World} {base : Nat} {e : TypeId} {size : Nat} {v : Value} {n : Nat} {xs : List Value} (h : w.ownsRow base e size v n xs) : v.ownBlock = none ∨ v.ownBlock ≠ some w.heap.size := by
  rcases hb : v.ownBlock with _ | g
  · exact .inl rfl
  · exact .inr fun e => by have := (h.lt g hb).2; cases e; omega

set_option maxRecDepth 100000 in
set_option maxHeartbeats 4000000 in
theorem lclose_ok (N : Int) (A : Option Addr) (c : Nat) (bs : List Ln.Bd) (w : World) (hR : Rd w w.heap.size 4 A bs.length (bcells bs)) (hc : Ln.Lv bs) (h14 : N ≤ 14) (hs : Ln.soundF N bs [] = 0) :
    Calls Try.prog 45 #[.agg #[.int .i64 N, .slice A bs.length c]] w fun e w' => ∃ A1 c1, e = .returned (.tuple #[.agg #[.int .i64 (Ln.clsF N bs).1.1, .slice A1 (Ln.clsF N bs).1.2.length c1], .int .i64 (Ln.clsF N bs).2]) ∧
      Rd w' w'.heap.size 4 A1 (Ln.clsF N bs).1.2.length (bcells (Ln.clsF N bs).1.2) ∧ Below w.heap.size w w' := by
  have hB0 : Below w.heap.size w ((w.alloc (.cells #[.int .i64 N, .slice A bs.length c] 24)).alloc (.cells #[.int .i64 0, .slice none 0 0] 24)) := ((Below.refl _ _).alloc (Nat.le_refl _) _).alloc (by simp) _
  have hR1 := (hR.below hB0 (Nat.le_refl _)).more hB0.size
  have k0 := (Bk.new w 24 #[.int .i64 N, .slice A bs.length c]).alloc (.cells #[.int .i64 0, .slice none 0 0] 24)
  have r0 := Bk.new (w.alloc (.cells #[.int .i64 N, .slice A bs.length c] 24)) 24 #[.int .i64 0, .slice none 0 0]
  rw [World.size_alloc] at r0
  obtain ⟨hcp, hco, hck⟩ := Ln.sound_zero hs
  obtain ⟨hok, hNt⟩ := Ln.ok_of_check hck
  have htop := hok.top
  have hNN := (Ln.cons_iff hok).1 hco
  have hcl : Ln.clsF N bs = if Ln.fitA bs N.toNat N.toNat then ((N, Ln.clA bs N.toNat N.toNat), 0) else ((0, []), 2) := by rw [Ln.clsF, if_pos hs]
  rw [hcl]
  obtain ⟨n, hn⟩ : ∃ n, N.toNat = n := ⟨_, rfl⟩
  rw [hn] at hok hNt htop hco ⊢
  subst hNt
  have hn14 : n ≤ 14 := by omega
  obtain ⟨res, hres⟩ : ∃ res : (Int × List Ln.Bd) × Int, (if Ln.fitA bs n n = true then (((n : Int), Ln.clA bs n n), (0 : Int)) else ((0, []), 2)) = res := ⟨_, rfl⟩
  rw [hres]
  have HRES := Lib.hid hres
  clear hres
  have HS := Lib.hid hs
  have hP0 : ∀ w : World, Rd w w.heap.size 1 none ([] : List Int).length (ints []) := fun w => Rd.nil _ _ _ _
  clear hs hcp hco hck hcl
  go_enter Try.func45, Try.ntmps45
  go_wp2_with fail
  refine (sound_fine (n : Int) A c bs none 0 [] _ hR1 hc (hP0 _) (by simp) HS.out).mono ?_
  rintro e w1 ⟨nb, fr, rfl, hNt, hb1⟩
  rw [hn] at hNt
  have k1 := k0.below hb1 (by simp; omega)
  have r1 := r0.below hb1 (by simp)
  have hB1 := hB0.trans (hb1.mono hB0.size)
  have c0 := k1.cell 0
  simp only [List.getElem?_toArray, List.getElem?_cons_zero, List.getElem?_cons_succ] at c0
  have kl1 := k1.lt
  have rl1 := r1.lt
  clear k0 r0 hb1 hB0 hR1
  have k2 := k1.alloc (.cells #[.int .i64 (n : Int), .slice none 0 0] 24)
  have r2 := r1.alloc (.cells #[.int .i64 (n : Int), .slice none 0 0] 24)
  have q2 := Bk.new w1 24 #[.int .i64 (n : Int), .slice none 0 0]
  have hB2 := hB1.alloc hB1.size (.cells #[.int .i64 (n : Int), .slice none 0 0] 24)
  have hN2 := hNt.below ((Below.refl w1.heap.size w1).alloc (Nat.le_refl _) (.cells #[.int .i64 (n : Int), .slice none 0 0] 24)) (Nat.le_refl _)
  have hAD := fun B w h1 h2 => allDistances_any hok B nb A c fr w h1 h2
  have HAD := Lib.hid hAD
  clear hAD
  have hrl : ∀ a, (Ln.distF bs n a).length = 128 := fun a => (Ln.distF_small hok a).1
  have hat : ∀ a b, a < n → b < 128 → Ln.gt (Ln.adF bs n) (a * 128 + b) = Ln.gt (Ln.distF bs n a) b := fun a b ha hb => Ln.adF_at hok ha hb
  have hal := Ln.adF_length hok
  have hsm : ∀ a b, Ln.gt (Ln.distF bs n a) b = Ln.NONE ∨ (-100000000000000 ≤ Ln.gt (Ln.distF bs n a) b ∧ Ln.gt (Ln.distF bs n a) b ≤ 100000000000000) := fun a b => (Ln.distF_small hok a).2.tm (by omega) b
  have hself : ∀ a, a < n → Ln.gt (Ln.distF bs n a) a = 0 := fun a ha => (Ln.dist_ok hok hNN ha).self hNN (by omega)
  have HSELF := Lib.hid hself
  clear hself hNN
  have HRL := Lib.hid hrl
  have HAT := Lib.hid hat
  have HAL := Lib.hid hal
  have HSM := Lib.hid hsm
  clear hrl hat hal hsm
  go_wp2_with fail
  refine (HAD.out w1.heap.size _ hN2 (by simp)).mono ?_
  rintro e w3 ⟨gd, rfl, hgd, kD3, hb3⟩
  have k3 := k2.below hb3 k2.lt
  have r3 := r2.below hb3 r2.lt
  have q3 := q2.below hb3 q2.lt
  have hB3 := hB2.trans (hb3.mono hB2.size)
  have kDl := kD3.lt
  have q3l := q3.lt
  obtain ⟨sb, hsb⟩ : ∃ sb, w.heap.size = sb := ⟨_, rfl⟩
  obtain ⟨cb, hcb⟩ : ∃ cb, w1.heap.size = cb := ⟨_, rfl⟩
  obtain ⟨T, hT⟩ : ∃ T, w3.heap.size = T := ⟨_, rfl⟩
  simp only [hsb, hcb, hT] at k3 r3 q3 hB3 kDl q3l kl1 rl1 ⊢
  have HSB := Lib.hid hsb
  have hgc : cb < gd := by rw [← hcb]; simp at hgd; omega
  clear k1 r1 k2 r2 q2 hB1 hB2 hN2 hb3 hNt hgd HAD c0 hsb hcb
  obtain ⟨ad, had⟩ : ∃ ad, Ln.adF bs n = ad := ⟨_, rfl⟩
  rw [had] at kD3
  have HADD := Lib.hid had
  clear had
  go_wp2_with fail
  go_loopw [26] (fun i wr => ∃ (k : Nat) (V : Value), k ≤ n ∧ i = .int .i64 k ∧ Ln.fitA bs n k = true ∧ Bk wr sb 24 #[.int .i64 (n : Int), .slice A bs.length c] ∧ Bk wr (sb + 1) 24 #[.int .i64 0, .slice none 0 0] ∧
      Bk wr cb 24 #[.int .i64 (n : Int), V] ∧ wr.ownsRow T 63 4 V (Ln.clA bs n k).length (bcells (Ln.clA bs n k)) ∧ Bk wr gd 87 (av ad) ∧ T ≤ wr.heap.size ∧ Below sb w wr)
    (fun i _ => n - (intOf i).toNat)
  case atStart => exact ⟨0, _, Nat.zero_le _, rfl, rfl, k3, r3, q3, own_none _ _ _, kD3, by omega, hB3⟩
  case round =>
    clear k3 r3 q3 kD3 hB3 hT
    obtain ⟨k, V, hk, rfl, hfit, kk, rr, qq, hV, kD, hTs, hB⟩ := hrel
    by_cases hkl : k < n
    · have hk0 : (0 : Int) ≤ (k : Int) := Int.natCast_nonneg _
      have hk1 : (k : Int) < n := by omega
      obtain ⟨row, hrow⟩ : ∃ row, Ln.distF bs n k = row := ⟨_, rfl⟩
      have hrl := HRL.out k
      have hrg : wr.rangeAt gd (k * 128) (ints row) := fun j v hj => by
        have hjl : j < (ints row).length := (List.getElem?_eq_some_iff.1 hj).1
        rw [ints_length, ← hrow, hrl] at hjl
        rw [kD.cell (k * 128 + j), av_at (by rw [← HADD.out, HAL.out]; omega), ← HADD.out, HAT.out k j hkl hjl, hrow, ← hj, Ln.gt_eq (by rw [← hrow, hrl]; omega)]
        simp [ints, ← hrow, hrl, hjl]
      rw [hrow] at hrl
      have hsmr := fun b => HSM.out k b
      simp only [hrow] at hsmr
      have c0 := kk.cell 0
      simp only [List.getElem?_toArray, List.getElem?_cons_zero, List.getElem?_cons_succ] at c0
      have l1 := kk.lt
      have l2 := kD.lt
      have HRG := Lib.hid hrg
      have HL := Lib.hid hrl
      have HSR := Lib.hid hsmr
      have HFIT := Lib.hid hfit
      have HROW := Lib.hid hrow
      have k4 := (kk.alloc (.cells Try.zeroCells87 87)).row_far (k := wr.heap.size) (by omega) (av row)
      have r4 := (rr.alloc (.cells Try.zeroCells87 87)).row_far (k := wr.heap.size) (by have := rr.lt; omega) (av row)
      have q4 := (qq.alloc (.cells Try.zeroCells87 87)).row_far (k := wr.heap.size) (by have := qq.lt; omega) (av row)
      have kD4 := (kD.alloc (.cells Try.zeroCells87 87)).row_far (k := wr.heap.size) (by omega) (av row)
      have d4 := (Bk.new wr 87 Try.zeroCells87).row (av row)
      have hB4 := (Bk.new wr 87 Try.zeroCells87).below_set (t := 87) (Nat.le_of_lt l1) (av row) (hB.alloc (Nat.le_of_lt l1) _)
      have hV4 := (hV.alloc (.cells Try.zeroCells87 87)).kept (grown_setRow (wr.alloc (.cells Try.zeroCells87 87)) wr.heap.size (av row)) (own_new hV)
      have hVn : V.ownBlock ≠ some wr.heap.size := fun e => by have := (hV.lt _ e).2; omega
      have s4 : ((wr.alloc (.cells Try.zeroCells87 87)).setRow wr.heap.size (av row)).heap.size = wr.heap.size + 1 := by rw [size_setRow, World.size_alloc]
      have c4 := k4.cell 0
      simp only [List.getElem?_toArray, List.getElem?_cons_zero, List.getElem?_cons_succ] at c4
      have REL4 := Lib.hid (And.intro k4 (And.intro r4 (And.intro q4 (And.intro kD4 (And.intro d4 (And.intro hB4 (And.intro hV4 (And.intro hVn s4))))))))
      have hsl := run_slice_reach wr.heap.size n htop
      clear k4 r4 q4 kD4 d4 hB4 hV4 hVn kk rr qq kD hB hV hrg hrl hsmr hfit hrow s4
      go_wp2_with (first
        | (refine wpList_load_mid rfl 87 (.tmp 29) rfl gd (k * 128) rfl (ints row) _ HRG.out Try.underlying87 rfl (by rw [ints_length, HL.out]; exact size94) ?_; rw [show Value.agg (ints row).toArray = .agg (av row) from rfl])
        | (refine wpList_store_row rfl 87 (.tmp 8) (.tmp 30) rfl wr.heap.size _ rfl rfl 87 _ (Bk.new wr _ _) (av_len94 HL.out) (by rw [zero94]; exact av_same Ln.zeros_length HL.out) (av_one _) ?_))
      obtain ⟨k4, r4, q4, kD4, d4, hB4, hV4, hVn, s4⟩ := REL4.out
      obtain ⟨rb, hrb⟩ : ∃ rb, wr.heap.size = rb := ⟨_, rfl⟩
      obtain ⟨W4, hW4⟩ : ∃ W4, (wr.alloc (.cells Try.zeroCells87 87)).setRow rb (av row) = W4 := ⟨_, rfl⟩
      rw [hrb] at k4 r4 q4 kD4 d4 hB4 hV4 hVn s4 hTs l1 l2 ⊢
      rw [hW4] at k4 r4 q4 kD4 d4 hB4 hV4 s4 ⊢
      clear REL4 c4 hsl hW4 hrb c0 HRG
      go_loopw [35] (fun i ws => ∃ (b : Nat) (V : Value), b ≤ n ∧ i = .int .i64 b ∧ Ln.fitR row b = true ∧ Bk ws sb 24 #[.int .i64 (n : Int), .slice A bs.length c] ∧ Bk ws (sb + 1) 24 #[.int .i64 0, .slice none 0 0] ∧
          Bk ws cb 24 #[.int .i64 (n : Int), V] ∧ ws.ownsRow T 63 4 V (Ln.clA bs n k ++ Ln.clR row k b).length (bcells (Ln.clA bs n k ++ Ln.clR row k b)) ∧ Bk ws gd 87 (av ad) ∧ Bk ws rb 87 (av row) ∧
          V.ownBlock ≠ some rb ∧ Below sb w ws)
        (fun i _ => n - (intOf i).toNat)
      case atStart => exact ⟨0, V, Nat.zero_le _, rfl, rfl, k4, r4, q4, by simpa [Ln.clR] using hV4, kD4, d4, hVn, hB4⟩
      case round =>
        clear k4 r4 q4 kD4 d4 hB4 hV4 hVn s4
        obtain ⟨b, V, hb, rfl, hfr, kk, rr, qq, hV, kD, dd, hVn, hB⟩ := hrel
        have l3 := kk.lt
        have l4 := rr.lt
        have l5 := qq.lt
        have l6 := dd.lt
        have l7 := kD.lt
        by_cases hbl : b < n
        · have hb0 : (0 : Int) ≤ (b : Int) := Int.natCast_nonneg _
          have hb1 : (b : Int) < n := by omega
          have cD := (dd.cell b).trans (av_at (by rw [HL.out]; omega))
          obtain ⟨x, hx⟩ : ∃ x, Ln.gt row b = x := ⟨_, rfl⟩
          have hxs := HSR.out b
          rw [hx] at cD hxs
          have HX := Lib.hid hx
          have HXS := Lib.hid hxs
          have HFR := Lib.hid hfr
          clear hx hxs hfr
          by_cases hskip : k = b ∨ x = Ln.NONE
          · have nx : Ln.clR row k (b + 1) = Ln.clR row k b := by rw [Ln.clR_succ, Ln.clB, HX.out, if_pos hskip, List.append_nil]
            have fx : Ln.fitR row (b + 1) = true := by
              rw [Ln.fitR_succ, HFR.out, HX.out]
              rcases hskip with e | e
              · have h0 : x = 0 := by
                  rw [← HX.out, ← e, ← HROW.out]
                  exact HSELF.out k hkl
                rw [h0]
                decide
              · rw [e]
                decide
            have NX := Lib.hid nx
            have FX := Lib.hid fx
            have REL := Lib.hid (And.intro kk (And.intro rr (And.intro qq (And.intro hV (And.intro kD (And.intro dd (And.intro hVn hB)))))))
            clear nx fx kk rr qq hV kD dd hVn hB
            by_cases hab : k = b
            · have e1 : ((k : Int) == (b : Int)) = true := by simp [hab]
              clear hskip hab
              go_wp2_with fail
              go_roundw
              case rel =>
                obtain ⟨kk, rr, qq, hV, kD, dd, hVn, hB⟩ := REL.out
                exact ⟨b + 1, V, by omega, by go_num, FX.out, kk, rr, qq, by rw [NX.out]; exact hV, kD, dd, hVn, hB⟩
              case measure => simp [intOf]; omega
            · have e1 : ((k : Int) == (b : Int)) = false := by simp; omega
              have e2 : (x == 9223372036854775807) = true := by
                have := hskip.resolve_left hab
                simpa [Ln.NONE] using this
              clear hskip hab
              go_wp2_with fail
              go_roundw
              case rel =>
                obtain ⟨kk, rr, qq, hV, kD, dd, hVn, hB⟩ := REL.out
                exact ⟨b + 1, V, by omega, by go_num, FX.out, kk, rr, qq, by rw [NX.out]; exact hV, kD, dd, hVn, hB⟩
              case measure => simp [intOf]; omega
          · rw [not_or] at hskip
            have e1 : ((k : Int) == (b : Int)) = false := by simp; omega
            have e2 : (x == 9223372036854775807) = false := by
              have := hskip.2
              simpa [Ln.NONE] using this
            rcases hw : Ln.within x 1000000 with _ | _
            · have hno : Ln.fitA bs n n = false := Ln.fitA_no hkl (by
                rw [HROW.out]
                exact Ln.fitR_no hbl (by rw [HX.out, Ln.fitB, hw, decide_eq_false hskip.2]; rfl))
              have HNO := Lib.hid hno
              have HW := Lib.hid hw
              have d0 := rr.cell 0
              have d1 := rr.cell 1
              have f0 := rr.frozen 0
              have f1 := rr.frozen 1
              simp only [List.getElem?_toArray, List.getElem?_cons_zero, List.getElem?_cons_succ] at d0 d1
              have K6 := Lib.hid ((rr.set 0 (.int .i64 0)).set 1 (.slice none 0 0))
              have HB6 := Lib.hid ((hB.setCell (p := ⟨sb + 1, 0, none⟩) (by simp) (.int .i64 0)).setCell (p := ⟨sb + 1, 1, none⟩) (by simp) (.slice none 0 0))
              clear hno hw hskip kk rr qq hV kD dd hVn hB
              go_wp2_with (go_at_call 80; refine (within_any x 1000000 (by omega) (by omega) _).mono ?_; rintro e w2 ⟨rfl, rfl⟩; rw [HW.out])
              have hr := HRES.out
              rw [HNO.out, if_neg (by simp)] at hr
              subst hr
              exact bodyPost_ret (v := .tuple #[.agg #[.int .i64 0, .slice none 0 0], .int .i64 2]) (results_cell_row_tmp rfl _ _ (sb + 1) 24 _ (0, 0) _ _ rfl rfl K6.out Try.underlying24 rfl (by kernel_rfl)) rfl ⟨none, 0, rfl, Rd.nil _ _ _ _, by rw [HSB.out]; exact HB6.out⟩
            · have nx : Ln.clR row k (b + 1) = Ln.clR row k b ++ [⟨k, b, x, 0, false⟩] := by rw [Ln.clR_succ, Ln.clB, HX.out, if_neg (by rw [not_or]; exact hskip)]
              have fx : Ln.fitR row (b + 1) = true := by rw [Ln.fitR_succ, HFR.out, HX.out, Ln.fitB, hw]; simp
              have hlen : (Ln.clA bs n k ++ Ln.clR row k b).length ≤ 300 := by
                have h1 := Ln.clA_length bs n k
                have h2 := Ln.clR_length row k b
                have h3 : k * n ≤ 14 * 14 := Nat.mul_le_mul (by omega) hn14
                rw [List.length_append]
                omega
              have nx2 : Ln.clA bs n k ++ Ln.clR row k (b + 1) = (Ln.clA bs n k ++ Ln.clR row k b) ++ [⟨k, b, x, 0, false⟩] := by rw [nx, List.append_assoc]
              obtain ⟨l, hl⟩ : ∃ l, Ln.clA bs n k ++ Ln.clR row k b = l := ⟨_, rfl⟩
              rw [hl] at hV hlen nx2
              obtain ⟨A', c', rfl, hrd⟩ := own_read hV
              have q1 := qq.cell 1
              simp only [List.getElem?_toArray, List.getElem?_cons_zero, List.getElem?_cons_succ] at q1
              have e3 : ((l.length : Int) == 2000) = false := by simp; omega
              have NX := Lib.hid nx2
              have FX := Lib.hid fx
              have HW := Lib.hid hw
              clear nx nx2 fx hw hskip hl hrd
              go_wp2_with (first
                | (go_at_call 80; refine (within_any x 1000000 (by omega) (by omega) _).mono ?_; rintro e w2 ⟨rfl, rfl⟩; rw [HW.out])
                | (at_builtin; refine wpList_appB rfl _ _ rfl T (.slice A' l.length c') l ⟨k, b, x, 0, false⟩ wr rfl hV rfl (by omega) (by omega) ?_; intro gg cap w4 hown hgrow hat hlt; have qq4 := qq.grown hgrow (off_neN hV (by omega)); have c41 := qq4.cell 1; have f41 := qq4.frozen 1; simp only [List.getElem?_toArray, List.getElem?_cons_zero, List.getElem?_cons_succ] at c41; have l8 := qq4.lt))
              go_roundw
              case rel =>
                refine ⟨b + 1, .slice (some ⟨gg, 0, none⟩) (l.length + 1) cap, by omega, by go_num, FX.out, (kk.grown hgrow (off_neN hV (by omega))).far (by simp; omega) _, (rr.grown hgrow (off_neN hV (by omega))).far (by simp; omega) _, qq4.set 1 _, ?_,
                  (kD.grown hgrow (off_neN hV (by omega))).far (by simp; omega) _, (dd.grown hgrow (Ne.symm hVn)).far (by simp; omega) _, ?_, (hB.grown hgrow (by omega) (fun j e => by have := (hV.lt j e).1; omega)).setCell (by simp; omega) _⟩
                · rw [NX.out]
                  have := hown.kept (grown_setCell w4 ⟨cb, 1, none⟩ (.slice (some ⟨gg, 0, none⟩) (l.length + 1) cap)) (own_offN hown (by omega))
                  exact this
                · intro e
                  have e' : gg = rb := by simpa [Value.ownBlock] using e
                  rcases hat with h | h
                  · exact hVn (by rw [h, e'])
                  · omega
              case measure => simp [intOf]; omega
        · obtain rfl : b = n := by omega
          go_wp2_with fail
          go_roundw
          case rel =>
            refine ⟨k + 1, V, by omega, by go_num, ?_, kk, rr, qq, ?_, kD, by omega, hB⟩
            · rw [Ln.fitA_succ, HFIT.out, HROW.out, hfr]; rfl
            · rw [Ln.clA_succ, HROW.out]
              exact hV
          case measure => simp [intOf]; omega
    · obtain rfl : k = n := by omega
      obtain ⟨A', c', rfl, hrd⟩ := own_read hV
      have hr := HRES.out
      rw [hfit, if_pos rfl] at hr
      have HR := Lib.hid hr
      clear hr
      have q0 := qq.cell 0
      have q1 := qq.cell 1
      have d0 := rr.cell 0
      have d1 := rr.cell 1
      have f0 := rr.frozen 0
      have f1 := rr.frozen 1
      simp only [List.getElem?_toArray, List.getElem?_cons_zero, List.getElem?_cons_succ] at q0 q1 d0 d1
      have l4 := rr.lt
      have l5 := qq.lt
      obtain ⟨l, hl⟩ : ∃ l, Ln.clA bs k k = l := ⟨_, rfl⟩
      rw [hl] at hrd q1 hV qq
      have HL := Lib.hid hl
      have K6 := Lib.hid ((rr.set 0 (.int .i64 (k : Int))).set 1 (.slice A' l.length c'))
      have HB6 := Lib.hid ((hB.setCell (p := ⟨sb + 1, 0, none⟩) (by simp) (.int .i64 (k : Int))).setCell (p := ⟨sb + 1, 1, none⟩) (by simp) (.slice A' l.length c'))
      have hsT : sb + 1 < T := by omega
      have HV6 := Lib.hid ((hV.kept (grown_setCell wr ⟨sb + 1, 0, none⟩ (.int .i64 (k : Int))) (own_offN hV hsT)).kept (grown_setCell _ ⟨sb + 1, 1, none⟩ (.slice A' l.length c')) (own_offN hV hsT))
      clear kk rr qq hV kD hB hrd hl hfit
      go_wp2_with fail
      have e := HL.out
      subst e
      have hr := HR.out
      subst hr
      refine bodyPost_ret (v := .tuple #[.agg #[.int .i64 (k : Int), .slice A' (Ln.clA bs k k).length c'], .int .i64 0]) (results_cell_row_tmp rfl _ _ (sb + 1) 24 _ (0, 0) _ _ rfl rfl K6.out Try.underlying24 rfl (by kernel_rfl)) rfl ⟨A', c', rfl, ?_, by rw [HSB.out]; exact HB6.out⟩
      obtain ⟨A2, c2, e, hrd⟩ := own_read HV6.out
      cases e
      exact hrd

set_option maxRecDepth 100000 in
set_option maxHeartbeats 1000000 in
theorem lclose_any (N : Int) (A : Option Addr) (c : Nat) (bs : List Ln.Bd) (w : World) (hR : Rd w w.heap.size 4 A bs.length (bcells bs)) (hc : Ln.Lv bs) (h14 : Ln.check N bs = 0 → N ≤ 14) :
    Calls Try.prog 45 #[.agg #[.int .i64 N, .slice A bs.length c]] w fun e w' => ∃ A1 c1, e = .returned (.tuple #[.agg #[.int .i64 (Ln.clsF N bs).1.1, .slice A1 (Ln.clsF N bs).1.2.length c1], .int .i64 (Ln.clsF N bs).2]) ∧
      Rd w' w'.heap.size 4 A1 (Ln.clsF N bs).1.2.length (bcells (Ln.clsF N bs).1.2) ∧ Below w.heap.size w w' := by
  by_cases hs : Ln.soundF N bs [] = 0
  · exact lclose_ok N A c bs w hR hc (h14 (Ln.sound_zero hs).2.2) hs
  · rw [show Ln.clsF N bs = ((0, []), Ln.soundF N bs []) from by rw [Ln.clsF, if_neg hs]]
    have hB0 : Below w.heap.size w ((w.alloc (.cells #[.int .i64 N, .slice A bs.length c] 24)).alloc (.cells #[.int .i64 0, .slice none 0 0] 24)) := ((Below.refl _ _).alloc (Nat.le_refl _) _).alloc (by simp) _
    have hR1 := (hR.below hB0 (Nat.le_refl _)).more hB0.size
    have r0 := Bk.new (w.alloc (.cells #[.int .i64 N, .slice A bs.length c] 24)) 24 #[.int .i64 0, .slice none 0 0]
    rw [World.size_alloc] at r0
    have hne : (Ln.soundF N bs [] != 0) = true := by simp [hs]
    have hcall := sound_err N A c bs none 0 [] _ hR1 hc (Rd.nil _ _ _ _) (by simp) hs
    obtain ⟨s, hss⟩ : ∃ s, Ln.soundF N bs [] = s := ⟨_, rfl⟩
    rw [hss] at hne hcall ⊢
    have HC := Lib.hid hcall
    clear hs hss hcall
    go_enter Try.func45, Try.ntmps45
    go_wp2_with fail
    refine HC.out.mono ?_
    rintro e w1 ⟨rfl, hb1⟩
    have rr := r0.below hb1 (by simp)
    have hB := hB0.trans (hb1.mono hB0.size)
    have d0 := rr.cell 0
    have d1 := rr.cell 1
    have f0 := rr.frozen 0
    have f1 := rr.frozen 1
    have l1 := rr.lt
    simp only [List.getElem?_toArray, List.getElem?_cons_zero, List.getElem?_cons_succ] at d0 d1
    have K6 := Lib.hid ((rr.set 0 (.int .i64 0)).set 1 (.slice none 0 0))
    have HB6 := Lib.hid ((hB.setCell (p := ⟨w.heap.size + 1, 0, none⟩) (by simp) (.int .i64 0)).setCell (p := ⟨w.heap.size + 1, 1, none⟩) (by simp) (.slice none 0 0))
    clear rr r0 hB
    go_wp2_with fail
    exact bodyPost_ret (v := .tuple #[.agg #[.int .i64 0, .slice none 0 0], .int .i64 s]) (results_cell_row_tmp rfl _ _ (w.heap.size + 1) 24 _ (0, 0) _ _ rfl rfl K6.out Try.underlying24 rfl (by kernel_rfl)) rfl ⟨none, 0, rfl, Rd.nil _ _ _ _, HB6.out⟩

end Go.Proofs.Ytppfpdhgckghdaa
