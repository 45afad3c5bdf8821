/-
  The reference's Rigid; SameLists.
-/
import Derived.Test.YtppfpdhgckghdaaRigM
import Derived.Test.YtppfpdhgckghdaaDsR
import Derived.Test.YtppfpdhgckghdaaRefA
import Derived.Test.YtppfpdhgckghdaaCirc
set_option linter.unusedVariables false
set_option linter.unusedSimpArgs false
namespace Go.Proofs.Ytppfpdhgckghdaa
open Go.RowKit Go.Shelf

namespace Ln
theorem meet_self {bs : List Bd} {n k : Nat} (hok : Ok n bs) (hN : NoNeg bs) (hk : k < n) : meet bs n k k = true := by
  have ht := hok.top
  have h := (dist_ok hok hN hk).self hN (by omega)
  unfold meet
  rw [h]
  decide
/-- The class of k, as the reference builds it. -/
def memL (bs : List Bd) (n k b : Nat) : List Nat := if b = k then [] else k :: mbr bs n k b
theorem memL_zero (bs : List Bd) (n k : Nat) : memL bs n k k = [] := if_pos rfl
theorem memL_all {bs : List Bd} {n k : Nat} (hk : k < n) : memL bs n k n = cls bs n k := by rw [memL, if_neg (by omega), cls]
theorem memL_hit {bs : List Bd} {n k b : Nat} (h : k ≤ b) (hm : meet bs n k b = true) : memL bs n k (b + 1) = memL bs n k b ++ [b] := by
  by_cases e : b = k
  · subst e
    rw [memL, if_neg (by omega), memL_zero, mbr_start]
    rfl
  · rw [memL, memL, if_neg (by omega), if_neg e, mbr_hit (by omega) hm]
    rfl
theorem memL_miss {bs : List Bd} {n k b : Nat} (h : k ≤ b) (hb : b ≠ k) (hm : meet bs n k b = false) : memL bs n k (b + 1) = memL bs n k b := by rw [memL, memL, if_neg (by omega), if_neg hb, mbr_miss hm]
theorem memL_length (bs : List Bd) (n k b : Nat) : (memL bs n k b).length ≤ b + 1 := by
  unfold memL
  split
  · simp
  · have := mbr_length bs n k b
    simp
    exact this
end Ln

/-- Marks that are right from k on. -/
def Mk (dl : List Bool) (n k : Nat) (P : Nat → Bool) : Prop := dl.length = n ∧ ∀ x (h : x < dl.length), k ≤ x → dl[x] = P x
theorem Mk.set {dl : List Bool} {n k b : Nat} {P : Nat → Bool} (h : Mk dl n k P) : Mk (dl.set b true) n k (fun x => if x = b then true else P x) := by
  refine ⟨by rw [List.length_set]; exact h.1, fun x hx hk => ?_⟩
  rw [List.length_set] at hx
  rw [List.getElem_set]
  dsimp only
  by_cases e : b = x
  · rw [if_pos e, if_pos e.symm]
  · rw [if_neg e, if_neg (fun e2 : x = b => e e2.symm)]
    exact h.2 x hx hk
theorem Mk.mono {dl : List Bool} {n k k' : Nat} {P : Nat → Bool} (h : Mk dl n k P) (hk : k ≤ k') : Mk dl n k' P := ⟨h.1, fun x hx h2 => h.2 x hx (by omega)⟩
theorem Mk.congr {dl : List Bool} {n k : Nat} {P Q : Nat → Bool} (h : Mk dl n k P) (he : ∀ x, k ≤ x → P x = Q x) : Mk dl n k Q := ⟨h.1, fun x hx h2 => (h.2 x hx h2).trans (he x h2)⟩


set_option maxRecDepth 100000 in
set_option maxHeartbeats 4000000 in
theorem rrigid_any (N : Int) (A : Option Addr) (c : Nat) (bs : List Ln.Bd) (w : World) (hR : Rd w w.heap.size 4 A bs.length (bcells bs)) (hc : Ln.Lv bs) (h14 : Ln.check N bs = 0 → N ≤ 14) :
    Calls Try.prog 41 #[.agg #[.int .i64 N, .slice A bs.length c]] w fun e w' => ∃ V, e = .returned (.tuple #[V, .int .i64 (Ln.rgF N bs).2]) ∧ LL w' V (Ln.rgF N bs).1 ∧ Below w.heap.size w w' := by
  obtain ⟨i0, hi0, hz0, hz1, hz2⟩ := info_parts info3
  obtain ⟨i1, hi1, hy0, hy1, hy2⟩ := info_parts infoL
  obtain ⟨i2, hi2, hx0, hx1, hx2⟩ := info_parts info4
  have hB0 : Below w.heap.size w (w.alloc (.cells #[.int .i64 N, .slice A bs.length c] 24)) := (Below.refl _ _).alloc (Nat.le_refl _) _
  have hR1 := (hR.below hB0 (Nat.le_refl _)).more hB0.size
  have k0 := Bk.new w 24 #[.int .i64 N, .slice A bs.length c]
  have hP0 : ∀ w : World, Rd w w.heap.size 1 none ([] : List Int).length (ints []) := fun w => Rd.nil _ _ _ _
  by_cases hs : Ln.soundF N bs [] = 0
  · obtain ⟨hcp, hco, hck⟩ := Ln.sound_zero hs
    obtain ⟨hok, hNt⟩ := Ln.ok_of_check hck
    have hNN := (Ln.cons_iff hok).1 hco
    have hpos := hok.pos
    have h14' := h14 hck
    have hrg : Ln.rgF N bs = ((Ln.rgK bs N.toNat N.toNat).1, 0) := by rw [Ln.rgF, if_pos hs]
    rw [hrg]
    obtain ⟨n, hn⟩ : ∃ n, N.toNat = n := ⟨_, rfl⟩
    rw [hn] at hok hNt hpos ⊢
    subst hNt
    have hself := fun k (hk : k < n) => Ln.meet_self hok hNN hk
    have hmx := fun A c w hR => matrix_sound hs hc h14' A c w hR
    have HS := Lib.hid hs
    have HSELF := Lib.hid hself
    have HMX := Lib.hid hmx
    clear hs hcp hco hck hrg hself hmx hok hNN
    go_enter Try.func41, Try.ntmps41
    go_wp2_with fail
    refine (rpointed_any (n : Int) A c bs none 0 [] _ hR1 hc (hP0 _) (by simp)).mono ?_
    rw [HS.out]
    rintro e w1 ⟨rfl, hb1⟩
    have k1 := k0.below hb1 (by simp)
    have hB1 := hB0.trans (hb1.mono hB0.size)
    have hR2 := (hR.below hB1 (Nat.le_refl _)).more hB1.size
    have c0 := (k1.cell 0).trans rfl
    have c1 := (k1.cell 1).trans rfl
    go_wp2_with fail
    refine (HMX.out A c _ hR2).mono ?_
    rintro e w2 ⟨G, blk, D, rfl, hM, hA, hG, hb2, hD, hsm⟩
    rw [hn] at hM hA hD hsm ⊢
    have k2 := k1.below hb2 k1.lt
    have hB2 := hB1.trans (hb2.mono hB1.size)
    have hlF : ∀ a b, a < n → b < n → Ln.meet bs n a b = Ln.meetsF (lowR (D b a)) (highR (D a b)) := fun a b ha hb => by
      rw [hD a b ha hb, hD b a hb ha, lowR_far, highR_far, Ln.meet, Ln.dF, Ln.dF, hn]
      simp
    have c0 := (k2.cell 0).trans rfl
    have k3 := k2.alloc (.cells (bv (Ln.falses n)) 4)
    have hM3 := hM.alloc (.cells (bv (Ln.falses n)) 4)
    have kF := Bk.new w2 4 (bv (Ln.falses n))
    have hB3 := hB2.alloc hB2.size (.cells (bv (Ln.falses n)) 4)
    have hl1 := k2.lt
    have hl2 := hM.out.lt
    have hl3 : ∀ i, i < n → blk i < w2.heap.size := fun i hi => (hM.row i hi).lt
    have hwl := hB2.size
    have REL := Lib.hid (And.intro k3 (And.intro hM3 (And.intro kF hB3)))
    have HL3 := Lib.hid hl3
    have HLF := Lib.hid hlF
    have HSM := Lib.hid hsm
    clear hsm hD hlF hl3 k3 hM3 kF hB3 hB2 hB1 hB0 hb1 hb2 k0 k1 k2 hM hA hR1 hR2 hR
    go_wp2_with (refine wpList_make_exact _ rfl _ _ 40 rfl 4 i2 _ 1 1 Try.underlying40 hi2 hx0 hx1 hx2 n rfl rfl (by omega) (by omega) (bv (Ln.falses n)) (by rw [Nat.mul_one]; exact made_flags _) ?_)
    obtain ⟨k3, hM3, kF, hB3⟩ := REL.out
    have hl3 := HL3.out
    obtain ⟨dg, hdg⟩ : ∃ dg, w2.heap.size = dg := ⟨_, rfl⟩
    obtain ⟨W3, hW3⟩ : ∃ W3, w2.alloc (.cells (bv (Ln.falses n)) 4) = W3 := ⟨_, rfl⟩
    rw [hdg] at kF hl1 hl2 hl3 hwl ⊢
    rw [hW3] at k3 hM3 kF hB3 ⊢
    have HL3 := Lib.hid hl3
    clear REL hW3 hdg c0 c1 hl3
    obtain ⟨sb, hsb⟩ : ∃ sb, w.heap.size = sb := ⟨_, rfl⟩
    rw [hsb] at k3 hl1 ⊢
    have HSB := Lib.hid hsb
    clear hsb
    go_loopw [6, 8] (fun C i wr => ∃ (k : Nat) (vs : List Value) (dl : List Bool), k ≤ n ∧ i = .int .i64 k ∧ Cls wr (dg + 1) C (Ln.rgK bs n k).1 vs ∧ Bk wr dg 4 (bv dl) ∧ Mk dl n k (Ln.rgK bs n k).2 ∧ Bk wr sb 24 #[.int .i64 (n : Int), .slice A bs.length c] ∧ MM wr G n blk D ∧ Below w.heap.size w wr)
      (fun _ i _ => n - (intOf i).toNat)
    case atStart => exact ⟨0, [], Ln.falses n, Nat.zero_le _, rfl, Cls.nil _ _, kF, ⟨by simp [Ln.falses], fun x hx _ => by simp [Ln.falses]; rfl⟩, k3, hM3, hB3⟩
    case round =>
      clear kF k3 hM3 hB3
      obtain ⟨k, vs, dl, hk, rfl, hC, kF, hMk, k4, hM, hB⟩ := hrel
      have c0 := (k4.cell 0).trans rfl
      have lF := kF.lt
      have ls := k4.lt
      by_cases hkl : k < n
      · have hk0 : (0 : Int) ≤ (k : Int) := Int.natCast_nonneg _
        have hk1 : (k : Int) < n := by omega
        have cF := (kF.cell k).trans (bv_at (by rw [hMk.1]; exact hkl))
        rw [hMk.2 k (by rw [hMk.1]; exact hkl) (Nat.le_refl _)] at cF
        rcases hpl : (Ln.rgK bs n k).2 k with _ | _
        · rw [hpl] at cF
          have hnew := Ln.rgK_new hpl
          have hkl2 := Ln.rgK_length bs n k
          obtain ⟨st, hst⟩ : ∃ st, Ln.rgK bs n k = st := ⟨_, rfl⟩
          rw [hst] at hC hMk hnew hkl2
          obtain ⟨L, P⟩ := st
          dsimp only at hC hMk hnew hkl2
          have HNEW := Lib.hid hnew
          clear hnew hpl hst
          have REL := Lib.hid (And.intro hC (And.intro kF (And.intro hMk (And.intro k4 (And.intro hM hB)))))
          clear hC kF hMk k4 hM hB
          go_wp2_with fail
          obtain ⟨hC, kF, hMk, k4, hM, hB⟩ := REL.out
          obtain ⟨W0, hW0⟩ : ∃ W0, W0 = wr := ⟨_, rfl⟩
          subst hW0
          clear REL cF c0
          go_loopw [9, 10] (fun K i wq => ∃ (b : Nat) (dl : List Bool), k ≤ b ∧ b ≤ n ∧ i = .int .i64 b ∧ wq.ownsRow W0.heap.size 3 1 K (Ln.memL bs n k b).length (nlist (Ln.memL bs n k b)) ∧ W0.grownBy wq (some dg) ∧ Bk wq dg 4 (bv dl) ∧ Mk dl n (k + 1) (Ln.plc bs n P k b))
            (fun _ i _ => n - (intOf i).toNat)
          case atStart =>
            refine ⟨k, dl, Nat.le_refl _, by omega, rfl, by rw [Ln.memL_zero]; exact own_none _ _ _, ⟨rfl, rfl, rfl, Nat.le_refl _, fun _ _ _ => rfl⟩, kF, (hMk.mono (Nat.le_succ k)).congr fun x hx => ?_⟩
            unfold Ln.plc
            simp [show ¬ x < k by omega]
          case round =>
            clear kF hMk
            obtain ⟨b, dl', hb1, hb2, rfl, hK, hg, kF, hMk⟩ := hrel
            have hsz := hg.size
            have k4' := k4.grown hg (by simp; omega)
            have hM' : MM wr G n blk D := ⟨hM.out.grown hg (by simp; omega), fun a ha => (hM.row a ha).grown hg (by have := HL3.out a ha; simp; omega)⟩
            have c0 := (k4'.cell 0).trans rfl
            have lF' := kF.lt
            have ls' := k4'.lt
            by_cases hbl : b < n
            · have hb0 : (0 : Int) ≤ (b : Int) := Int.natCast_nonneg _
              have hbn : (b : Int) < n := by omega
              have hml := Ln.memL_length bs n k b
              have hsp := fun w (hM : MM w G n blk D) => rspan_any w hM (a := k) (b := b) hkl hbl (by omega) (HSM.out b k hbl hkl)
              have hlf := HLF.out k b hkl hbl
              obtain ⟨⟨lo1, lo2⟩, hlo⟩ : ∃ z, lowR (D b k) = z := ⟨_, rfl⟩
              obtain ⟨⟨hi1', hi2'⟩, hhi⟩ : ∃ z, highR (D k b) = z := ⟨_, rfl⟩
              rw [hlo, hhi] at hlf
              simp only [hlo, hhi] at hsp
              have HSP := Lib.hid hsp
              have HLFF := Lib.hid hlf
              have REL := Lib.hid (And.intro hK (And.intro hg (And.intro kF (And.intro hMk hM'))))
              have hM2 := hM'
              clear hsp hlf hlo hhi hK hg kF hMk hM' k4'
              go_wp2_with fail
              refine (HSP.out _ hM2).mono ?_
              rintro e w5 ⟨rfl, hb5⟩
              unfold spanV
              obtain ⟨hK, hg, kF, hMk, _⟩ := REL.out
              have kX := Bk.new w5 58 #[.int .i64 lo1, .int .i64 hi1', .bool lo2, .bool hi2']
              have hbx : Below wr.heap.size wr (w5.alloc (.cells #[.int .i64 lo1, .int .i64 hi1', .bool lo2, .bool hi2'] 58)) := hb5.alloc hb5.size _
              have hK2 := own_below hK hbx
              have hg2 := grown_new hg (grown_below hbx) (fun g e => by cases e)
              have kF2 := kF.below hbx lF'
              have hx := hbx.size
              have ck0 := (kX.cell 0).trans rfl
              have ck1 := (kX.cell 1).trans rfl
              have ck2 := (kX.cell 2).trans rfl
              have ck3 := (kX.cell 3).trans rfl
              have lX := kX.lt
              have hW5 := hb5.size
              have HW0 := hg.size
              have lF2 := kF2.lt
              have hyes : lo2 = true → hi2' = true → (lo1 == hi1') = true → Ln.meet bs n k b = true := fun a b' c' => by rw [HLFF.out]; unfold Ln.meetsF; dsimp only; rw [a, b']; simpa using c'
              have hno : (lo2 = false ∨ hi2' = false ∨ (lo1 == hi1') = false) → Ln.meet bs n k b = false := fun h => by
                rw [HLFF.out, Bool.eq_false_iff]
                intro h2
                simp [Ln.meetsF] at h2
                rcases h with h | h | h
                · rw [h] at h2; simp at h2
                · rw [h] at h2; simp at h2
                · rw [h2.2] at h; simp at h
              have hend : Ln.meet bs n k b = false → ∃ (b1 : Nat) (dl1 : List Bool), k ≤ b1 ∧ b1 ≤ n ∧ (Value.int .i64 ((b : Int) + 1)) = .int .i64 b1 ∧ (w5.alloc (.cells #[.int .i64 lo1, .int .i64 hi1', .bool lo2, .bool hi2'] 58)).ownsRow W0.heap.size 3 1 u9 (Ln.memL bs n k b1).length (nlist (Ln.memL bs n k b1)) ∧ W0.grownBy (w5.alloc (.cells #[.int .i64 lo1, .int .i64 hi1', .bool lo2, .bool hi2'] 58)) (some dg) ∧ Bk (w5.alloc (.cells #[.int .i64 lo1, .int .i64 hi1', .bool lo2, .bool hi2'] 58)) dg 4 (bv dl1) ∧ Mk dl1 n (k + 1) (Ln.plc bs n P k b1) := fun hm => by
                have hbk : b ≠ k := fun e => by
                  subst e
                  rw [HSELF.out b hbl] at hm
                  cases hm
                exact ⟨b + 1, dl', by omega, by omega, by go_num, by rw [Ln.memL_miss hb1 hbk hm]; exact hK2, hg2, kF2, by rw [Ln.plc_miss hm]; exact hMk⟩
              have HEND := Lib.hid hend
              have HYES := Lib.hid hyes
              have HNO := Lib.hid hno
              clear hend hyes hno hK hg kF hb5 hbx hM2 c0 REL kX
              rcases lo2 with _ | _
              · clear hK2 hg2 kF2 hMk
                go_wp2_with fail
                go_roundw
                case rel => exact HEND.out (HNO.out (.inl (by simp)))
                case measure => simp [intOf]; omega
              · rcases hi2' with _ | _
                · clear hK2 hg2 kF2 hMk
                  go_wp2_with fail
                  go_roundw
                  case rel => exact HEND.out (HNO.out (.inr (.inl (by simp))))
                  case measure => simp [intOf]; omega
                · rcases heq : (lo1 == hi1') with _ | _
                  · have HE9 := Lib.hid (HEND.out (HNO.out (.inr (.inr heq))))
                    clear hK2 hg2 kF2 hMk
                    go_wp2_with fail
                    go_roundw
                    case rel => exact HE9.out
                    case measure => simp [intOf]; omega
                  · have hmt := HYES.out (by simp) (by simp) heq
                    have HMT := Lib.hid hmt
                    clear hmt HEND HNO HYES
                    dsimp only
                    go_upto_region 16 with fail
                    obtain ⟨W6, hW6⟩ : ∃ W6, w5.alloc (.cells #[.int .i64 lo1, .int .i64 hi1', .bool true, .bool true] 58) = W6 := ⟨_, rfl⟩
                    obtain ⟨xb, hxb⟩ : ∃ xb, w5.heap.size = xb := ⟨_, rfl⟩
                    rw [hW6] at hK2 hg2 kF2 ck0 ck1 ck2 ck3 lX lF2 hx ⊢
                    rw [hxb] at ck0 ck1 ck2 ck3 lX hW5 ⊢
                    clear hW6 hxb
                    obtain ⟨m, hm⟩ : ∃ m, (Ln.memL bs n k b).length = m := ⟨_, rfl⟩
                    rw [hm] at hK2 hml
                    have HM := Lib.hid hm
                    have hmk := hMk.1
                    have HMK := Lib.hid hMk
                    clear hm hMk
                    go_wp2_with (at_builtin; refine wpList_app1 rfl _ _ 25 rfl 3 i0 _ 8 Try.underlying25 hi0 hz0 hz1 hz2 rfl W0.heap.size u9 m _ (.int .i64 (b : Int)) _ rfl hK2 rfl rfl (by unfold maxLen; omega) (by omega) (by first | omega | (simp; omega)) ?_; intro g1 cap1 w7 hS7 hg7 hat7 hlt7; have kF7 := kF2.grown hg7 (fun e => by have := (hK2.lt _ e.symm).1; omega); have cF7 := (kF7.cell b).trans (bv_at (by rw [hmk]; exact hbl)); have fF7 := kF7.frozen b; have lF7 := kF7.lt)
                    have hS8 := hS7.kept (grown_setCell w7 ⟨dg, b, none⟩ (.bool true)) (own_offN hS7 (show dg < W0.heap.size by omega))
                    have hg8 := (grown_new hg2 hg7 (fun g e => by have := (hK2.lt g e).1; omega)).trans (grown_setCell w7 ⟨dg, b, none⟩ (.bool true))
                    have kF8 := kF7.set b (.bool true)
                    have REL := Lib.hid (And.intro hS8 (And.intro hg8 kF8))
                    clear hS7 hg7 kF7 hS8 hg8 kF8 hK2 hg2 kF2 cF7 fF7
                    go_roundw
                    case rel =>
                      obtain ⟨hK, hg, kF⟩ := REL.out
                      rw [bv_set] at kF
                      refine ⟨b + 1, _, by omega, by omega, by go_num, ?_, hg, kF, ?_⟩
                      · rw [Ln.memL_hit hb1 HMT.out, List.length_append, HM.out, ← nlist_snoc]
                        exact hK
                      · refine HMK.out.set.congr fun x hx => ?_
                        by_cases e : b = k
                        · subst e
                          unfold Ln.plc
                          rw [if_neg (by omega)]
                          simp [show ¬ x < b by omega, show ¬ x < b + 1 by omega]
                        · rw [Ln.plc_hit (by omega) HMT.out]
                    case measure => simp [intOf]; omega
            · obtain rfl : b = n := by omega
              obtain ⟨A', c', rfl, hrd⟩ := own_read hK
              have hC2 := hC.keep hg (Nat.lt_succ_self _)
              have hlt : ∀ a, A' = some a → W0.heap.size ≤ a.block ∧ a.block < wr.heap.size := fun a e => by
                subst e
                exact hK.lt a.block rfl
              have hcl : ∀ a, A' = some a → dg + 1 ≤ a.block ∧ u6.ownBlock ≠ some a.block ∧ a.block < wr.heap.size := fun a e => by
                obtain ⟨x, y⟩ := hlt a e
                refine ⟨by omega, fun e2 => ?_, y⟩
                have := (hC.own.lt _ e2).2
                omega
              have hB2 := hB.grown hg (by exact hB.size) (fun j e => by cases e; rw [HSB.out]; omega)
              obtain ⟨cl0, hcl0⟩ : ∃ l, Ln.memL bs b k b = l := ⟨_, rfl⟩
              obtain ⟨P2, hP2⟩ : ∃ P2, Ln.plc bs b P k b = P2 := ⟨_, rfl⟩
              rw [hcl0] at hrd ⊢
              rw [hP2] at hMk
              have HCL := Lib.hid hcl0
              have HP2 := Lib.hid hP2
              have HADD := Lib.hid (And.intro hC2 (And.intro hrd (And.intro hcl (And.intro hB2 (And.intro kF (And.intro hMk (And.intro k4' hM')))))))
              have hown := hC2.own
              clear hC2 hrd hcl hB2 kF k4' hM' hK hg hlt hcl0 hP2 hC k4 hM hB hMk
              go_wp2_with (at_builtin; refine wpList_app1 rfl _ _ 49 rfl 25 i1 _ 24 Try.underlying49 hi1 hy0 hy1 hy2 rfl (dg + 1) u6 L.length vs (.slice A' cl0.length c') wr rfl hown rfl rfl (by unfold maxLen; omega) (by omega) (by omega) ?_; intro g1 cap1 w7 hS7 hg7 hat7 hlt7)
              obtain ⟨hC2, hrd, hcl, hB2, kF, hMk, k4, hM⟩ := HADD.out
              have hadd := hC2.add hrd hcl hS7 hg7 hat7
              have hoff : ∀ {g : Nat}, g < dg + 1 → some g ≠ u6.ownBlock := fun {g} h e => by have := (hC2.own.lt _ e.symm).1; omega
              have hMM : MM w7 G b blk D := ⟨hM.out.grown hg7 (hoff (by omega)), fun a ha => (hM.row a ha).grown hg7 (hoff (by have := HL3.out a ha; omega))⟩
              have REL := Lib.hid (And.intro hadd (And.intro (kF.grown hg7 (hoff (by omega))) (And.intro hMk (And.intro (k4.grown hg7 (hoff (by omega))) (And.intro hMM (hB2.grown hg7 hB2.size (fun j e => by have := (hC2.own.lt j e).1; rw [HSB.out]; omega)))))))
              clear hadd hC2 hrd hcl hB2 kF k4 hM hMM hS7 hg7 hown hMk
              go_roundw
              case rel =>
                obtain ⟨hC, kF, hMk, k4, hM, hB⟩ := REL.out
                refine ⟨k + 1, vs ++ [.slice A' cl0.length c'], _, by omega, by go_num, ?_, kF, ?_, k4, hM, hB⟩
                · rw [HNEW.out]
                  dsimp only
                  rw [show Ln.cls bs b k = cl0 from (Ln.memL_all hkl).symm.trans HCL.out]
                  exact hC
                · rw [HNEW.out]
                  dsimp only
                  rw [HP2.out]
                  exact hMk
              case measure => simp [intOf]; omega
        · rw [hpl] at cF
          have hsk := Ln.rgK_skip hpl
          have HSK := Lib.hid hsk
          have REL := Lib.hid (And.intro hC (And.intro kF (And.intro hMk (And.intro k4 (And.intro hM hB)))))
          clear hC kF hMk k4 hM hB hpl hsk
          go_wp2_with fail
          go_roundw
          case rel =>
            obtain ⟨hC, kF, hMk, k4, hM, hB⟩ := REL.out
            rw [← HSK.out] at hC hMk
            exact ⟨k + 1, vs, dl, by omega, by go_num, hC, kF, hMk.mono (Nat.le_succ k), k4, hM, hB⟩
          case measure => simp [intOf]; omega
      · obtain rfl : k = n := by omega
        have REL := Lib.hid (And.intro hC hB)
        clear hC kF hMk k4 hM hB
        go_wp2_with fail
        go_ret2
        obtain ⟨hC, hB⟩ := REL.out
        obtain ⟨A', c', rfl, hrd⟩ := own_read hC.own
        exact ⟨_, rfl, ⟨A', c', vs, rfl, hrd, fun i hi => by obtain ⟨B', d', e1, e2, _⟩ := hC.rows i hi; exact ⟨B', d', e1, e2⟩⟩, hB⟩
  · rw [Ln.rgF_bad hs]
    have hne : (Ln.soundF N bs [] != 0) = true := by simp [hs]
    have hcall := rpointed_any N A c bs none 0 [] _ hR1 hc (hP0 _) (by simp)
    obtain ⟨s, hss⟩ : ∃ s, Ln.soundF N bs [] = s := ⟨_, rfl⟩
    rw [hss] at hne hcall ⊢
    have HC := Lib.hid hcall
    clear hs hss hcall
    go_enter Try.func41, Try.ntmps41
    go_wp2_with fail
    refine HC.out.mono ?_
    rintro e w1 ⟨rfl, hb1⟩
    go_wp2_with fail
    go_ret2
    exact ⟨_, rfl, LL.nil _, hB0.trans (hb1.mono hB0.size)⟩

set_option maxRecDepth 100000 in
set_option maxHeartbeats 2000000 in
theorem sameLists_any (V1 V2 : Value) (L : List (List Nat)) (w : World) (h1 : LL w V1 L) (h2 : LL w V2 L) (hl : L.length ≤ 1000000) (hll : ∀ l ∈ L, l.length ≤ 1000000) :
    Calls Try.prog 42 #[V1, V2] w fun e w' => e = .returned (.bool true) ∧ Below w.heap.size w w' := by
  obtain ⟨A1, c1, vs1, rfl, r1, q1⟩ := h1
  obtain ⟨A2, c2, vs2, rfl, r2, q2⟩ := h2
  have HLL := Lib.hid hll
  have Q1 := Lib.hid q1
  have Q2 := Lib.hid q2
  clear hll q1 q2
  go_enter Try.func42, Try.ntmps42
  go_wp2_with fail
  go_loopw [5] (fun i wr => ∃ k : Nat, k ≤ L.length ∧ i = .int .i64 k ∧ Below w.heap.size w wr)
    (fun i _ => L.length - (intOf i).toNat)
  case atStart => exact ⟨0, Nat.zero_le _, rfl, Below.refl _ _⟩
  case round =>
    obtain ⟨k, hk, rfl, hB⟩ := hrel
    by_cases hkl : k < L.length
    · have hk0 : (0 : Int) ≤ (k : Int) := Int.natCast_nonneg _
      have hk1 : (k : Int) < L.length := by omega
      obtain ⟨b1, o1, rfl, hb1, e1⟩ := r1.2 (by omega)
      obtain ⟨b2, o2, rfl, hb2, e2⟩ := r2.2 (by omega)
      obtain ⟨B1, d1, g1, p1⟩ := Q1.out k hkl
      obtain ⟨B2, d2, g2, p2⟩ := Q2.out k hkl
      have f1 := (hB.cell (p := ⟨b1, o1 + k, none⟩) hb1).trans ((e1 k (by omega)).trans g1)
      have f2 := (hB.cell (p := ⟨b2, o2 + k, none⟩) hb2).trans ((e2 k (by omega)).trans g2)
      have hlk := HLL.out _ (List.getElem_mem hkl)
      obtain ⟨l, hlx⟩ : ∃ l, L[k] = l := ⟨_, rfl⟩
      rw [hlx] at f1 f2 p1 p2 hlk
      have hzz := hB.size
      have hsi : ∀ W, Below wr.heap.size wr W → _ := fun W hbW => sameInts_any B1 d1 (Ln.zl l) B2 d2 (Ln.zl l) W (by rw [Ln.zl_length, ← nlist_ints]; exact ((p1.below (hB.trans (hbW.mono hB.size)) (Nat.le_refl _)).more (Nat.le_trans hB.size hbW.size))) (by rw [Ln.zl_length, ← nlist_ints]; exact ((p2.below (hB.trans (hbW.mono hB.size)) (Nat.le_refl _)).more (Nat.le_trans hB.size hbW.size))) (by rw [Ln.zl_length]; omega) (by rw [Ln.zl_length]; omega)
      simp only [show sameI (Ln.zl l) (Ln.zl l) = true from by unfold sameI; simp, Ln.zl_length] at hsi
      have HSI := Lib.hid hsi
      have hSB : ∀ W, Below wr.heap.size wr W → W.cell? ⟨b1, o1 + k, none⟩ = some (.slice B1 l.length d1) ∧ W.cell? ⟨b2, o2 + k, none⟩ = some (.slice B2 l.length d2) := fun W hb =>
        ⟨(hb.cell (p := ⟨b1, o1 + k, none⟩) (by simp; omega)).trans f1, (hb.cell (p := ⟨b2, o2 + k, none⟩) (by simp; omega)).trans f2⟩
      have HSB2 := Lib.hid hSB
      have HB := Lib.hid hB
      clear hsi hSB e1 e2 g1 g2 p1 p2 hlx hB
      go_upto_region 6 with fail
      go_cut [6] (fun s6 wx => s6 = .bool true ∧ Below wr.heap.size wr wx)
      case first =>
        have hbC : Below wr.heap.size wr wr.drew := (Below.refl _ _).drew
        go_region_held3 (fun w' => w'.cell? ⟨b1, o1 + k, none⟩ = some (.slice B1 l.length d1) ∧ w'.cell? ⟨b2, o2 + k, none⟩ = some (.slice B2 l.length d2))
          (first | (with_reducible exact HSB2.out _ hbC) | ((try dsimp only); with_reducible exact HSB2.out _ hbC) | go_keep)
          (first
            | (go_at_call 19; refine (HSI.out _ hbC).mono ?_; rintro e wa ⟨rfl, hba⟩; have hbC := hbC.trans (hba.mono hbC.size)))
        all_goals
          go_wp2_with fail
          go_meet
          exact ⟨rfl, hbC⟩
      case rest =>
        obtain ⟨rfl, hbx⟩ := hcut
        go_wp2_with fail
        go_roundw
        case rel => exact ⟨k + 1, by omega, by go_num, HB.out.trans (hbx.mono HB.out.size)⟩
        case measure => simp [intOf]; omega
    · go_wp2_with fail
      go_ret
      exact ⟨rfl, hB⟩

end Go.Proofs.Ytppfpdhgckghdaa
