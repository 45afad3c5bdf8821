/-
  LineBlamed: the law's walk.
-/
import Derived.Test.YtdndhfggdjphjaaLEither
set_option linter.unusedVariables false
set_option linter.unusedSimpArgs false
namespace Go.Proofs.Ytdndhfggdjphjaa
open Go.RowKit Go.Shelf

namespace Ln
def fdP (bs : List Bd) (r k : Int) : Bool := decide (0 ≤ k) && (decide (k < bs.length) && decide ((bd bs k.toNat).r = r))
def fdF (bs : List Bd) (l : List Int) (r : Int) : Bool := l.any (fdP bs r)
theorem fdF_step (bs : List Bd) {l : List Int} {m : Nat} (hm : m < l.length) (r : Int) : fdF bs (l.take (m + 1)) r = (fdF bs (l.take m) r || fdP bs r l[m]) := by
  unfold fdF
  rw [List.take_succ_eq_append_getElem hm, List.any_append]
  simp
theorem recR_pos {bs : List Bd} : ∀ (l o : List Int) (x : Int), x ∈ l.foldl (recS bs) o → x ∈ o ∨ 0 < x
  | [], o, x, h => .inl h
  | i :: l, o, x, h => by
    rcases recR_pos l _ x h with h | h
    · unfold recS at h
      split at h
      · rename_i hp
        rcases List.mem_append.1 h with h | h
        · exact .inl h
        · right
          have : x = (bd bs i.toNat).r := by simpa using h
          omega
      · exact .inl h
    · exact .inr h
theorem woL_check {N : Int} {bs : List Bd} (h : check N bs = 0) (l : List Int) : check N (woL l bs) = 0 := by
  obtain ⟨a, b, c⟩ := check_len h
  exact check_mk (Nat.le_trans (woL_length l bs) a) b c (fun x hx => check_valid h x (woL_mem hx))
theorem path_kept {bs : List Bd} {y : Nat → Int} {p q : Nat} {l : List Nat} {s : Int} (hp : Pth bs p l q s) (h : ∀ i ∈ l, y (bd bs i).t.toNat ≤ y (bd bs i).f.toNat + (bd bs i).m) : y q ≤ y p + s := by
  induction hp with
  | nil p => omega
  | @cons i l q s hi hp ih =>
    have h1 := h i (by simp)
    have h2 := ih (fun j hj => h j (by simp [hj]))
    omega
theorem blamed_ok {N : Int} {bs : List Bd} (hl : ∀ b ∈ bs, b.gone = false) (hc : check N bs = 0) {r : Int} (hr : r ∈ (blF N bs).1) :
    1 ≤ r ∧ check N (woL [r] bs) = 0 ∧ consF (woL [r] bs) N.toNat = true ∧ ∀ l, (ccF N bs l).1 = true → fdF bs l r = true := by
  have hw := woL_check hc [r]
  rw [blF, if_pos hc] at hr
  split at hr
  · cases hr
  · obtain ⟨h1, h2⟩ := List.mem_filter.1 hr
    have hco : consF (woL [r] bs) N.toNat = true := by simpa [blP] using h2
    have hpos : 1 ≤ r := by
      rcases recR_pos _ [] r (recC_mem h1) with h | h
      · cases h
      · omega
    refine ⟨hpos, hw, hco, fun l hg => ?_⟩
    rcases hf : fdF bs l r with _ | _
    · exfalso
      obtain ⟨_, p, s, hn, hall⟩ := ccF_neg hl hg
      obtain ⟨y, hy⟩ := (cons_pot (ok_of_check hw).1).1 hco
      have := path_kept (y := y) hn.1 (fun i hi => by
        obtain ⟨k, hk, rfl⟩ := List.mem_map.1 hi
        obtain ⟨k0, k1⟩ := hall k hk
        have hne : ¬ (bd bs k.toNat).r = r := fun e => by
          have hany := List.any_eq_false.1 hf k hk
          apply hany
          simp [fdP, k0, k1, e]
        have hmem : bd bs k.toNat ∈ woL [r] bs := List.mem_filter.2 ⟨bd_mem (by omega), by simpa using hne⟩
        obtain ⟨j, hj, e⟩ := List.getElem_of_mem hmem
        have := hy j ⟨hj, by rw [bd_eq hj, e]; exact hl _ (bd_mem (by omega))⟩
        rw [bd_eq hj, e] at this
        exact this)
      have := hn.2
      omega
    · rfl
theorem blF_err {N : Int} {bs : List Bd} : (blF N bs).2 = check N bs := by
  unfold blF
  split
  · rename_i h; rw [h]; split <;> rfl
  · rfl
theorem blF_nil {N : Int} {bs : List Bd} (h : consF bs N.toNat = true) : (blF N bs).1 = [] := by
  unfold blF
  by_cases hc : check N bs = 0 <;> simp [hc, h]
theorem compact_le (l : List Int) : (Lib.compact l).length ≤ l.length := compact_len l
theorem blF_len (N : Int) (bs : List Bd) : (blF N bs).1.length ≤ 100000 := by
  unfold blF
  split
  · rename_i hc
    split
    · simp
    · have h1 := List.length_filter_le (fun r => !blP N.toNat bs r) (recC (recR bs (zl (circF bs N.toNat))))
      have h2 : (recC (recR bs (zl (circF bs N.toNat)))).length ≤ (recR bs (zl (circF bs N.toNat))).length := by
        unfold recC
        refine Nat.le_trans (compact_len _) ?_
        rw [List.length_mergeSort]
        exact Nat.le_refl _
      have h3 := recR_length bs (zl (circF bs N.toNat))
      rw [zl_length] at h3
      have h4 := (circK_top (bs := bs) (N := N.toNat) N.toNat).2.1
      have h5 := (ok_of_check hc).1.top
      unfold circF at h3
      dsimp only
      unfold circF at h1 h2 ⊢
      omega
  · simp
end Ln

def BlC (b : List Int) (e0 : Int) (N : Int) (bs : List Ln.Bd) : Prop := ∀ A c w, Rd w w.heap.size 4 A bs.length (bcells bs) →
  Calls Try.prog 40 #[.agg #[.int .i64 N, .slice A bs.length c]] w fun e w' => ∃ A' c', e = .returned (.tuple #[.slice A' b.length c', .int .i64 e0]) ∧ Rd w' w'.heap.size 1 A' b.length (ints b) ∧ Below w.heap.size w w'
/-- What Without and Consistent answer for one record. -/
def WoC (r : Int) (ds : List Ln.Bd) (N : Int) (bs : List Ln.Bd) : Prop := ∀ A c A2 c2 w, Rd w w.heap.size 4 A bs.length (bcells bs) → Rd w w.heap.size 1 A2 [r].length (ints [r]) →
  Calls Try.prog 41 #[.agg #[.int .i64 N, .slice A bs.length c], .slice A2 1 c2] w fun e w' => ∃ A' c', e = .returned (.tuple #[.agg #[.int .i64 N, .slice A' ds.length c'], .int .i64 0]) ∧ Rd w' w'.heap.size 4 A' ds.length (bcells ds) ∧ Below w.heap.size w w'

section
variable (N : Int) (A : Option Addr) (c : Nat) (bs : List Ln.Bd) (A2 : Option Addr) (c2 : Nat) (l : List Int) (w : World)
  (hR : Rd w w.heap.size 4 A bs.length (bcells bs)) (hn : bs.length ≤ 9223372036854775807)

set_option maxRecDepth 100000 in
set_option maxHeartbeats 1000000 in
include hR hn in
theorem blamed_early (h : Ln.fewF N bs.length 14 40 = false ∨ 40 < l.length) :
    Calls Try.prog 12 #[.agg #[.int .i64 N, .slice A bs.length c], .slice A2 l.length c2] w fun e w' => e = .returned (.bool true) ∧ Below w.heap.size w w' := by
  have s0 := Sy.new (w := w) N c hR
  rcases hf : Ln.fewF N bs.length 14 40 with _ | _
  · have HF := Lib.hid hf
    clear hf h
    go_enter Try.func12, Try.ntmps12
    go_wp2_with fail
    refine (some_law N A bs.length c hn _).mono ?_
    rw [HF.out]
    rintro e w1 ⟨rfl, hb1⟩
    have s1 := s0.step hb1
    go_wp2_with fail
    refine (alive_any _).mono ?_
    rintro e w2 ⟨rfl, hb2⟩
    have s2 := s1.step hb2
    go_wp2_with fail
    go_ret
    exact ⟨rfl, s2.bl⟩
  · have HF := Lib.hid hf
    rw [hf] at h
    have h := h.resolve_left (by simp)
    clear hf
    go_enter Try.func12, Try.ntmps12
    go_wp2_with fail
    refine (some_law N A bs.length c hn _).mono ?_
    rw [HF.out]
    rintro e w1 ⟨rfl, hb1⟩
    have s1 := s0.step hb1
    go_wp2_with fail
    refine (alive_any _).mono ?_
    rintro e w2 ⟨rfl, hb2⟩
    have s2 := s1.step hb2
    go_wp2_with fail
    go_ret
    exact ⟨rfl, s2.bl⟩

variable (hL : Rd w w.heap.size 1 A2 l.length (ints l)) (hf : Ln.fewF N bs.length 14 40 = true) (hll : l.length ≤ 40)

set_option maxRecDepth 100000 in
set_option maxHeartbeats 2000000 in
include hR hn hL hf hll in
theorem blamed_bad (ck : Int) (hck : ck ≠ 0) (HBL : Hid (BlC [] ck N bs)) (HCC : Hid (CcC l false ck N bs)) :
    Calls Try.prog 12 #[.agg #[.int .i64 N, .slice A bs.length c], .slice A2 l.length c2] w fun e w' => e = .returned (.bool true) ∧ Below w.heap.size w w' := by
  have s0 := Sy.new (w := w) N c hR
  have HF := Lib.hid hf
  have hne : (ck != 0) = true := by simp [hck]
  clear hf hck
  go_enter Try.func12, Try.ntmps12
  go_wp2_with fail
  refine (some_law N A bs.length c hn _).mono ?_
  rw [HF.out]
  rintro e w1 ⟨rfl, hb1⟩
  have s1 := s0.step hb1
  obtain ⟨c0, c1, cl⟩ := s1.cells
  go_wp2_with fail
  refine (HBL.out _ _ _ s1.rd).mono ?_
  rintro e w2 ⟨Ab, cb, rfl, hb, hb2⟩
  have s2 := s1.step hb2
  have hL2 := (hL.below s2.bl (Nat.le_refl _)).more s2.bl.size
  clear c0 c1 cl
  obtain ⟨c0, c1, cl⟩ := s2.cells
  go_wp2_with fail
  refine (HCC.out _ _ _ _ _ s2.rd hL2).mono ?_
  rintro e w3 ⟨rfl, hb3⟩
  have s3 := s2.step hb3
  clear c0 c1 cl
  go_wp2_with fail
  refine (alive_any _).mono ?_
  rintro e w4 ⟨rfl, hb4⟩
  have s4 := s3.step hb4
  go_wp2_with fail
  go_ret
  exact ⟨rfl, s4.bl⟩

set_option maxRecDepth 100000 in
set_option maxHeartbeats 4000000 in
include hR hn hL hf hll in
theorem blamed_ok_walk (g ok : Bool) (b : List Int) (hbl : b.length ≤ 100000) (hokb : ok = true → b = []) (W : Int → List Ln.Bd) (hwf : ∀ x ∈ b, 1 ≤ x) (hgf : g = true → ∀ x ∈ b, Ln.fdF bs l x = true)
    (HBL : Hid (BlC b 0 N bs)) (HCC : Hid (CcC l g 0 N bs)) (HCO : Hid (CsC ok 0 N bs)) (HWO : Hid (∀ x ∈ b, WoC x (W x) N bs ∧ CsC true 0 N (W x))) (hbs : bs.length ≤ 2005) :
    Calls Try.prog 12 #[.agg #[.int .i64 N, .slice A bs.length c], .slice A2 l.length c2] w fun e w' => e = .returned (.bool true) ∧ Below w.heap.size w w' := by
  have s0 := Sy.new (w := w) N c hR
  have HF := Lib.hid hf
  have HWF := Lib.hid hwf
  have HGF := Lib.hid hgf
  have HOK := Lib.hid hokb
  clear hf hwf hgf hokb
  have hokc : ok = false ∨ (ok = true ∧ b.length = 0) := by
    cases ok
    · exact .inl rfl
    · exact .inr ⟨rfl, by rw [HOK.out rfl]; rfl⟩
  rcases g with _ | _
  case' false => have HG : Hid True := Lib.hid trivial
  case' true => have HG := Lib.hid (HGF.out rfl)
  all_goals
    clear HGF
    go_enter Try.func12, Try.ntmps12
    go_wp2_with fail
    refine (some_law N A bs.length c hn _).mono ?_
    rw [HF.out]
    rintro e w1 ⟨rfl, hb1⟩
    have s1 := s0.step hb1
    obtain ⟨c0, c1, cl⟩ := s1.cells
    go_wp2_with fail
    refine (HBL.out _ _ _ s1.rd).mono ?_
    rintro e w2 ⟨Ab, cb, rfl, hb, hb2⟩
    have s2 := s1.step hb2
    have hL2 := (hL.below s2.bl (Nat.le_refl _)).more s2.bl.size
    clear c0 c1 cl
    obtain ⟨c0, c1, cl⟩ := s2.cells
    go_wp2_with fail
    refine (HCC.out _ _ _ _ _ s2.rd hL2).mono ?_
    rintro e w3 ⟨rfl, hb3⟩
    have s3 := s2.step hb3
    have hbz3 := (hb.below hb3 (Nat.le_refl _)).more hb3.size
    clear c0 c1 cl
    obtain ⟨c0, c1, cl⟩ := s3.cells
    go_wp2_with fail
    refine (HCO.out _ _ _ s3.rd).mono ?_
    rintro e w4 ⟨rfl, hb4⟩
    have s4 := s3.step hb4
    have hbz4 := (hbz3.below hb4 (Nat.le_refl _)).more hb4.size
    have hL4 := (hL.below s4.bl (Nat.le_refl _)).more s4.bl.size
    clear c0 c1 cl
    rcases hokc with rfl | ⟨rfl, hb0⟩
    · go_wp2_with fail
      go_loopw [74] (fun i wr => ∃ k : Nat, k ≤ b.length ∧ i = .int .i64 k ∧ Sy w wr w.heap.size N A c bs ∧ Below w4.heap.size w4 wr) (fun i _ => b.length - (intOf i).toNat)
      case atStart => exact ⟨0, Nat.zero_le _, rfl, s4, Below.refl _ _⟩
      case round =>
        obtain ⟨k, hk, rfl, s5, hB⟩ := hrel
        by_cases hlt : k < b.length
        · have hmem := List.getElem_mem hlt
          obtain ⟨bx, ox, rfl, hbx, ex⟩ := Rd.one (hbz4.below hB (Nat.le_refl _)) hlt
          obtain ⟨x, hx⟩ : ∃ x, b[k] = x := ⟨_, rfl⟩
          rw [hx] at ex hmem
          have hx1 := HWF.out x hmem
          have HME := Lib.hid hmem
          clear hx hmem
          obtain ⟨c0, c1, cl⟩ := s5.cells
          go_wp2_with fail
          have s6 := s5.alloc (.cells #[.int .i64 x] 3)
          have hB6 : Below wr.heap.size wr (wr.alloc (.cells #[.int .i64 x] 3)) := (Below.refl _ _).alloc (Nat.le_refl _) _
          have hP6 : Rd (wr.alloc (.cells #[.int .i64 x] 3)) (wr.alloc (.cells #[.int .i64 x] 3)).heap.size 1 (some ⟨wr.heap.size, 0, none⟩) [x].length (ints [x]) := bk_rd (d := [x]) (by simpa [av] using Bk.new wr 3 #[.int .i64 x]) rfl
          refine ((HWO.out x HME.out).1 _ _ _ _ _ s6.rd hP6).mono ?_
          rintro e w7 ⟨Aw, cw, rfl, hw7, hb7⟩
          have hX7 : Below w7.heap.size w7 (w7.alloc (.cells #[.int .i64 N, .slice Aw (W x).length cw] 24)) := (Below.refl _ _).alloc (Nat.le_refl _) _
          have s7 := (s6.step hb7).alloc (.cells #[.int .i64 N, .slice Aw (W x).length cw] 24)
          have j7 := Sy.new (w := w7) N cw hw7
          have hB7 := (hB6.trans (hb7.mono hB6.size)).trans (hX7.mono (Nat.le_trans hB6.size hb7.size))
          clear c0 c1 cl
          obtain ⟨c0, c1, cl⟩ := j7.cells
          go_wp2_with fail
          obtain ⟨v7, hv7⟩ : ∃ v7, w7.alloc (.cells #[.int .i64 N, .slice Aw (W x).length cw] 24) = v7 := ⟨_, rfl⟩
          rw [hv7] at s7 j7 hB7 ⊢
          clear hv7 hX7 c0 c1 cl
          refine ((HWO.out x HME.out).2 _ _ _ j7.rd).mono ?_
          rintro e w8 ⟨rfl, hb8⟩
          have s8 := s7.step hb8
          have hB8 := hB7.trans (hb8.mono hB7.size)
          have hL8 := (hL.below s8.bl (Nat.le_refl _)).more s8.bl.size
          go_wp2_with fail
          go_loop [17, 92] (fun f j => ∃ m : Nat, m ≤ l.length ∧ j = .int .i64 m ∧ f = .bool (Ln.fdF bs (l.take m) x)) (fun _ j => l.length - (intOf j).toNat)
          case atStart => exact ⟨0, Nat.zero_le _, rfl, rfl⟩
          case round =>
            obtain ⟨m, hm, rfl, rfl⟩ := hrel
            by_cases hmt : m < l.length
            · obtain ⟨bl, ol, rfl, hbl2, el⟩ := Rd.one hL8 hmt
              have hst := Ln.fdF_step bs hmt x
              obtain ⟨q, hq⟩ : ∃ q, l[m] = q := ⟨_, rfl⟩
              rw [hq] at el hst
              clear hq
              obtain ⟨c0, c1, cl⟩ := s8.cells
              obtain ⟨fd, hfd⟩ : ∃ fd, Ln.fdF bs (l.take m) x = fd := ⟨_, rfl⟩
              rw [hfd] at hst ⊢
              clear hfd
              have HST := Lib.hid hst
              clear hst
              cases fd
              · rcases Int.lt_or_le q 0 with hq0 | hq0
                · go_wp2_with fail
                  go_round
                  case rel => exact ⟨m + 1, by omega, by go_num, by rw [HST.out]; simp [Ln.fdP]; omega⟩
                  case measure => simp [intOf]; omega
                · rcases Int.lt_or_le q bs.length with hq1 | hq1
                  · obtain ⟨qn, rfl⟩ : ∃ qn : Nat, q = qn := ⟨q.toNat, by omega⟩
                    have hql : qn < bs.length := by omega
                    obtain ⟨b3, o3, rfl, hb3', _, _, _, e3⟩ := s8.rd.bound hql
                    rw [← Ln.bd_eq hql] at e3
                    obtain ⟨rr, hrr⟩ : ∃ rr, (Ln.bd bs qn).r = rr := ⟨_, rfl⟩
                    rw [hrr] at e3
                    have HRR := Lib.hid hrr
                    clear hrr
                    by_cases hrx : rr = x
                    · subst hrx
                      go_wp2_with fail
                      go_round
                      case rel => exact ⟨m + 1, by omega, by go_num, by rw [HST.out]; simp [Ln.fdP, HRR.out]; omega⟩
                      case measure => simp [intOf]; omega
                    · have hrn : (rr == x) = false := by simp [hrx]
                      have HRX := Lib.hid hrx
                      clear hrx
                      go_wp2_with fail
                      go_round
                      case rel => exact ⟨m + 1, by omega, by go_num, by rw [HST.out]; simp [Ln.fdP, HRR.out, HRX.out]⟩
                      case measure => simp [intOf]; omega
                  · go_wp2_with fail
                    go_round
                    case rel => exact ⟨m + 1, by omega, by go_num, by rw [HST.out]; simp [Ln.fdP]; omega⟩
                    case measure => simp [intOf]; omega
              · go_wp2_with fail
                go_round
                case rel => exact ⟨m + 1, by omega, by go_num, by rw [HST.out]; rfl⟩
                case measure => simp [intOf]; omega
            · obtain rfl : m = l.length := by omega
              rw [List.take_length]
              first
                | (rw [HG.out x HME.out]
                   go_wp2_with fail
                   go_roundw
                   case rel => exact ⟨k + 1, by omega, by go_num, s8, hB.trans (hB8.mono hB.size)⟩
                   case measure => simp [intOf]; omega)
                | (go_wp2_with fail
                   go_roundw
                   case rel => exact ⟨k + 1, by omega, by go_num, s8, hB.trans (hB8.mono hB.size)⟩
                   case measure => simp [intOf]; omega)
        · go_wp2_with fail
          refine (alive_any _).mono ?_
          rintro e w9 ⟨rfl, hb9⟩
          have s9 := s5.step hb9
          go_wp2_with fail
          go_ret
          exact ⟨rfl, s9.bl⟩
    · go_wp2_with fail
      go_loopw [74] (fun i wr => i = .int .i64 0 ∧ Sy w wr w.heap.size N A c bs) (fun i _ => 0)
      case atStart => exact ⟨rfl, s4⟩
      case round =>
        obtain ⟨rfl, s5⟩ := hrel
        go_wp2_with fail
        refine (alive_any _).mono ?_
        rintro e w9 ⟨rfl, hb9⟩
        have s9 := s5.step hb9
        go_wp2_with fail
        go_ret
        exact ⟨rfl, s9.bl⟩
end

theorem lineBlamed_any (N : Int) (A : Option Addr) (c : Nat) (bs : List Ln.Bd) (A2 : Option Addr) (c2 : Nat) (l : List Int) (w : World) (hR : Rd w w.heap.size 4 A bs.length (bcells bs)) (hn : bs.length ≤ 9223372036854775807) (hlv : ∀ x ∈ bs, x.gone = false)
    (hL : Rd w w.heap.size 1 A2 l.length (ints l)) :
    Calls Try.prog 12 #[.agg #[.int .i64 N, .slice A bs.length c], .slice A2 l.length c2] w fun e w' => e = .returned (.bool true) ∧ Below w.heap.size w w' := by
  by_cases he : Ln.fewF N bs.length 14 40 = false ∨ 40 < l.length
  · exact blamed_early N A c bs A2 c2 l w hR hn he
  · have hf : Ln.fewF N bs.length 14 40 = true := by
      rcases h : Ln.fewF N bs.length 14 40 with _ | _
      · exact absurd (.inl h) he
      · rfl
    have hll : l.length ≤ 40 := by omega
    have hlen := Ln.fewF_len hf (by omega)
    have hLv : Ln.Lv bs := ⟨by omega, hlv⟩
    have hbl := fun A c w h => blame_any N A c bs w h hLv
    have hco := fun A c w h => cons_any N A c bs w h hLv
    have hcc := fun A c A2 c2 w h h2 => checkCircle_any N A c bs A2 c2 l w h hLv h2 (by omega)
    by_cases hck : Ln.check N bs = 0
    · have hce := Ln.ccF_err (N := N) (bs := bs) (l := l)
      rw [hck] at hce
      rw [hce] at hcc
      have hbe := Ln.blF_err (N := N) (bs := bs)
      rw [hck] at hbe
      rw [hbe] at hbl
      rw [show Ln.coF N bs = (Ln.consF bs N.toNat, 0) from by rw [Ln.coF, if_pos hck]] at hco
      refine blamed_ok_walk N A c bs A2 c2 l w hR hn hL hf hll (Ln.ccF N bs l).1 (Ln.consF bs N.toNat) (Ln.blF N bs).1 (Ln.blF_len N bs) Ln.blF_nil (fun x => Ln.woL [x] bs) (fun x hx => (Ln.blamed_ok hlv hck hx).1)
        (fun hg x hx => (Ln.blamed_ok hlv hck hx).2.2.2 l hg) (Lib.hid hbl) (Lib.hid hcc) (Lib.hid hco) (Lib.hid fun x hx => ?_) hlen
      obtain ⟨x1, x2, x3, _⟩ := Ln.blamed_ok hlv hck hx
      have hxm : x ≤ 1000000 := by
        rw [Ln.blF, if_pos hck] at hx
        split at hx
        · cases hx
        · have h1 := Ln.recC_mem (List.mem_filter.1 hx).1
          rcases Ln.recR_mem _ [] x h1 with h2 | ⟨i, hi, rfl⟩
          · cases h2
          · obtain ⟨j, hj, rfl⟩ := List.mem_map.1 hi
            have hj2 := (Ln.circK_top (bs := bs) (N := N.toNat) N.toNat).2.2 j hj
            rw [Int.toNat_natCast]
            exact (Ln.valid_iff.1 (Ln.check_valid hck _ (Ln.bd_mem hj2))).2.2.2.2.2
      refine ⟨fun A c A2 c2 w h1 h2 => ?_, fun A c w h => ?_⟩
      · have := without_any N A c bs A2 c2 [x] w h1 hLv h2 (by simp) (fun y hy => by rw [List.mem_singleton.1 hy]; exact wf_small (by omega) hxm)
        rw [Ln.woF, if_pos hck] at this
        refine this.mono ?_
        rintro e w' ⟨A', c', h3, h4, _, h5⟩
        exact ⟨A', c', h3, h4, h5⟩
      · have := cons_any N A c (Ln.woL [x] bs) w h (Ln.woL_lv hLv [x])
        rw [Ln.coF, if_pos x2, x3] at this
        exact this
    · rw [show Ln.blF N bs = ([], Ln.check N bs) from by rw [Ln.blF, if_neg hck]] at hbl
      rw [show Ln.ccF N bs l = (false, Ln.check N bs) from by rw [Ln.ccF, if_neg hck]] at hcc
      exact blamed_bad N A c bs A2 c2 l w hR hn hL hf hll (Ln.check N bs) hck (Lib.hid hbl) (Lib.hid hcc)

end Go.Proofs.Ytdndhfggdjphjaa
