/-
  Consistent, follow; the laws' guards on sizes; a system that lies boxed while a law walks on. No condition.
-/
import Derived.Test.YteiaofgkmgllcaaCirc
import Derived.Test.YteiaofgkmgllcaaPots
set_option linter.unusedVariables false
set_option linter.unusedSimpArgs false
namespace Go.Proofs.Yteiaofgkmgllcaa
open Go.RowKit

section
variable (N : Int) (A : Option Addr) (c : Nat) (bs : List Ln.Bd) (w : World)

set_option maxRecDepth 100000 in
set_option maxHeartbeats 1000000 in
theorem cons_any (hR : Rd w w.heap.size 4 A bs.length (bcells bs)) (hc : Ln.Lv bs) :
    Calls Try.prog 8 #[.agg #[.int .i64 N, .slice A bs.length c]] w fun e w' => e = .returned (.tuple #[.bool (Ln.coF N bs).1, .int .i64 (Ln.coF N bs).2]) ∧ Below w.heap.size w w' := by
  have hB0 : Below w.heap.size w (w.alloc (.cells #[.int .i64 N, .slice A bs.length c] 24)) := (Below.refl _ _).alloc (Nat.le_refl _) _
  have hR1 := (hR.below hB0 (Nat.le_refl _)).more hB0.size
  have kS := Bk.new w 24 #[.int .i64 N, .slice A bs.length c]
  obtain ⟨r, hr⟩ : ∃ r, Ln.coF N bs = r := ⟨_, rfl⟩
  rw [hr]
  rw [Ln.coF] at hr
  by_cases hs : Ln.check N bs = 0
  · obtain ⟨hok, hN⟩ := Ln.ok_of_check hs
    obtain ⟨M, rfl⟩ : ∃ M : Nat, N = M := ⟨N.toNat, by omega⟩
    rw [Int.toNat_natCast] at hok hr
    rw [if_pos hs] at hr
    have HS := Lib.hid hs
    have HR := Lib.hid hr
    clear hs hN hr
    go_enter Try.func8, Try.ntmps8
    go_wp2_with (first
      | (go_at_call 33; refine (check_any M A c bs _ hR1 hc.len).mono ?_; rw [HS.out]; rintro e w1 ⟨rfl, hb1⟩; have k1 := kS.below hb1 (by simp); have c0 := k1.cell 0; have c1 := k1.cell 1; have hB1 := hB0.trans (hb1.mono hB0.size); have hR2 := (hR.below hB1 (Nat.le_refl _)).more hB1.size)
      | (go_at_call 34; refine (netOf_any M A c bs hok hc _ hR2).mono ?_; rintro e w2 ⟨nb, fr, rfl, hNt, hb2⟩)
      | (go_at_call 35; refine (consistent_any hok _ nb A c fr _ hNt (Nat.le_refl _)).mono ?_; rintro e w3 ⟨rfl, hb3⟩))
    go_ret2
    have hr := HR.out
    subst hr
    exact ⟨rfl, (hB1.trans (hb2.mono hB1.size)).trans (hb3.mono (Nat.le_trans hB1.size hb2.size))⟩
  · rw [if_neg hs] at hr
    have hne : (Ln.check N bs != 0) = true := by simp [hs]
    have HR := Lib.hid hr
    clear hs hr
    go_enter Try.func8, Try.ntmps8
    go_wp2_with (go_at_call 33; refine (check_any N A c bs _ hR1 hc.len).mono ?_; rintro e w1 ⟨rfl, hb1⟩)
    go_ret2
    have hr := HR.out
    subst hr
    exact ⟨rfl, hB0.trans (hb1.mono hB0.size)⟩
end

namespace Ln
/-- How far a list has been followed. -/
def FlK (bs : List Bd) (l : List Int) (a : Int) (N k : Nat) (tt sum : Int) : Prop :=
  flG bs l (a, 0) = flG bs (l.drop k) (tt, sum) ∧ -(1000000 * (k : Int)) ≤ sum ∧ sum ≤ 1000000 * (k : Int)
theorem FlK.start (bs : List Bd) (l : List Int) (a : Int) (N : Nat) : FlK bs l a N 0 a 0 := ⟨by simp, by simp, by simp⟩
theorem FlK.stop {bs : List Bd} {l : List Int} {a : Int} {N k : Nat} {tt sum : Int} (h : FlK bs l a N k tt sum) (hk : k < l.length) (hn : ¬ (0 ≤ l[k] ∧ l[k] < bs.length ∧ (bd bs l[k].toNat).f = tt)) : flF bs l a = (0, 0, false) := by
  rw [flF, h.1, drop_cons hk, flG_no hn]
  rfl
theorem FlK.go {bs : List Bd} {l : List Int} {a : Int} {N k : Nat} {tt sum : Int} (hok : Ok N bs) (h : FlK bs l a N k tt sum) (hk : k < l.length) (h1 : 0 ≤ l[k]) (h2 : l[k] < bs.length) (h3 : (bd bs l[k].toNat).f = tt) :
    FlK bs l a N (k + 1) (bd bs l[k].toNat).t (sum + (bd bs l[k].toNat).m) := by
  have hb := flG_bound hok (i := l[k].toNat) (by omega)
  obtain ⟨e, s1, s2⟩ := h
  refine ⟨?_, by omega, by omega⟩
  rw [e, drop_cons hk, flG_go ⟨h1, h2, h3⟩]
theorem FlK.done {bs : List Bd} {l : List Int} {a : Int} {N : Nat} {tt sum : Int} (h : FlK bs l a N l.length tt sum) : flF bs l a = (tt, sum, true) := by
  rw [flF, h.1, List.drop_length, flG]
  rfl
end Ln

set_option maxRecDepth 100000 in
set_option maxHeartbeats 2000000 in
theorem follow_any {M : Nat} (N : Int) (A : Option Addr) (c : Nat) (bs : List Ln.Bd) (A2 : Option Addr) (c2 : Nat) (l : List Int) (a : Int) (w : World) (hok : Ln.Ok M bs) (hR : Rd w w.heap.size 4 A bs.length (bcells bs)) (hL : Rd w w.heap.size 1 A2 l.length (ints l)) (hll : l.length ≤ 1000000) :
    Calls Try.prog 41 #[.agg #[.int .i64 N, .slice A bs.length c], .slice A2 l.length c2, .int .i64 a] w fun e w' => e = .returned (.tuple #[.int .i64 (Ln.flF bs l a).1, .int .i64 (Ln.flF bs l a).2.1, .bool (Ln.flF bs l a).2.2]) ∧ Below w.heap.size w w' := by
  have hB0 : Below w.heap.size w (w.alloc (.cells #[.int .i64 N, .slice A bs.length c] 24)) := (Below.refl _ _).alloc (Nat.le_refl _) _
  have kS := Bk.new w 24 #[.int .i64 N, .slice A bs.length c]
  obtain ⟨r, hr⟩ : ∃ r, Ln.flF bs l a = r := ⟨_, rfl⟩
  have hst := Ln.FlK.start bs l a M
  have hlen := hok.len
  rw [hr]
  have HR := Lib.hid hr
  have HST := Lib.hid hst
  clear hr hst
  go_enter Try.func41, Try.ntmps41
  go_wp2_with fail
  go_loopw [6, 7, 14] (fun t s i wr => ∃ (k : Nat) (tt sum : Int), k ≤ l.length ∧ i = .int .i64 k ∧ t = .int .i64 tt ∧ s = .int .i64 sum ∧ Ln.FlK bs l a M k tt sum ∧
        Bk wr w.heap.size 24 #[.int .i64 N, .slice A bs.length c] ∧ Below w.heap.size w wr)
      (fun _ _ i _ => l.length - (intOf i).toNat)
  case atStart => exact ⟨0, a, 0, Nat.zero_le _, rfl, rfl, rfl, HST.out, kS, hB0⟩
  case round =>
    obtain ⟨k, tt, sum, hk, rfl, rfl, rfl, hF, kS1, hB⟩ := hrel
    have c1 := kS1.cell 1
    have hS1 := kS1.lt
    simp only [List.getElem?_toArray, List.getElem?_cons_zero, List.getElem?_cons_succ] at c1
    have hs1 := hF.2.1
    have hs2 := hF.2.2
    by_cases hlt : k < l.length
    · obtain ⟨bl, ol, rfl, hbl, el⟩ := Rd.one (hL.below hB (Nat.le_refl _)) hlt
      have hgo := hF.go hok hlt
      have hno := hF.stop hlt
      obtain ⟨x, hx⟩ : ∃ x, l[k] = x := ⟨_, rfl⟩
      rw [hx] at el hgo hno
      have HG := Lib.hid hgo
      have HN := Lib.hid hno
      clear hx hgo hno hF
      rcases Int.lt_or_le x 0 with hx0 | hx0
      · go_wp2_with fail
        go_ret3
        have hr := HR.out
        rw [HN.out (by omega)] at hr
        subst hr
        exact ⟨rfl, hB⟩
      · rcases Int.lt_or_le x bs.length with hx1 | hx1
        · obtain ⟨xn, rfl⟩ : ∃ xn : Nat, x = xn := ⟨x.toNat, by omega⟩
          have hxl : xn < bs.length := by omega
          obtain ⟨b, off, rfl, hb, e0, e1, e2, e3⟩ := (hR.below hB (Nat.le_refl _)).bound hxl
          rw [← Ln.bd_eq hxl] at e0 e1 e2 e3
          have hbd := Ln.flG_bound hok hxl
          rw [Int.toNat_natCast] at HG HN
          obtain ⟨B, hBd⟩ : ∃ B, Ln.bd bs xn = B := ⟨_, rfl⟩
          rw [hBd] at e0 e1 e2 e3 HG HN hbd
          clear hBd
          by_cases hf : B.f = tt
          · subst hf
            go_wp2_with fail
            go_roundw
            case rel => exact ⟨k + 1, _, _, by omega, by go_num, rfl, rfl, HG.out (by omega) (by omega) rfl, kS1, hB⟩
            case measure => simp [intOf]; omega
          · have hne : (B.f != tt) = true := by simp [hf]
            have HF := Lib.hid hf
            clear hf
            go_wp2_with fail
            go_ret3
            have hr := HR.out
            rw [HN.out (fun h => HF.out h.2.2)] at hr
            subst hr
            exact ⟨rfl, hB⟩
        · go_wp2_with fail
          go_ret3
          have hr := HR.out
          rw [HN.out (by omega)] at hr
          subst hr
          exact ⟨rfl, hB⟩
    · obtain rfl : k = l.length := by omega
      have hd := hF.done
      have HD := Lib.hid hd
      clear hd hF
      go_wp2_with fail
      go_ret3
      have hr := HR.out
      rw [HD.out] at hr
      subst hr
      exact ⟨rfl, hB⟩

end Go.Proofs.Yteiaofgkmgllcaa

namespace Go.Proofs.Yteiaofgkmgllcaa
open Go.RowKit

namespace Ln
def fewF (N : Int) (n : Nat) (p b : Int) : Bool := (decide ((n : Int) ≤ b) && decide (N ≤ p)) || ((decide (128 < N) && decide ((n : Int) ≤ b)) || (decide (2000 < n) && decide (n ≤ 2005)))
theorem fewF_iff {N : Int} {n : Nat} {p b : Int} : fewF N n p b = true ↔ ((n : Int) ≤ b ∧ N ≤ p) ∨ (128 < N ∧ (n : Int) ≤ b) ∨ (2000 < n ∧ n ≤ 2005) := by
  simp only [fewF, Bool.or_eq_true, Bool.and_eq_true, decide_eq_true_eq]
theorem fewF_len {N : Int} {n : Nat} {p b : Int} (h : fewF N n p b = true) (hb : b ≤ 2005) : n ≤ 2005 := by
  simp only [fewF, Bool.or_eq_true, Bool.and_eq_true, decide_eq_true_eq] at h
  omega
theorem fewF_ok {N : Int} {bs : List Bd} {p b : Int} (h : fewF N bs.length p b = true) (hc : check N bs = 0) : N ≤ p ∧ bs.length ≤ b := by
  simp only [fewF, Bool.or_eq_true, Bool.and_eq_true, decide_eq_true_eq] at h
  obtain ⟨l1, l2, l3⟩ := check_len hc
  omega
end Ln

set_option maxRecDepth 100000 in
set_option maxHeartbeats 1000000 in
theorem few_any (N : Int) (A : Option Addr) (n c : Nat) (p b : Int) (hn : n ≤ 9223372036854775807) (hb0 : 0 ≤ b) (hb : b < 2000) (w : World) :
    Calls Try.prog 25 #[.agg #[.int .i64 N, .slice A n c], .int .i64 p, .int .i64 b] w fun e w' => e = .returned (.bool (Ln.fewF N n p b)) ∧ Below w.heap.size w w' := by
  have hB0 : Below w.heap.size w (w.alloc (.cells #[.int .i64 N, .slice A n c] 24)) := (Below.refl _ _).alloc (Nat.le_refl _) _
  rcases Int.lt_or_le b n with h1 | h1
  · rcases Int.lt_or_le 128 N with h2 | h2
    all_goals
      rcases Nat.lt_or_ge 2000 n with h3 | h3
      · rcases Nat.lt_or_ge 2005 n with h4 | h4
        all_goals
          go_enter Try.func25, Try.ntmps25
          go_wp2_with fail
          go_ret
          exact ⟨ret_bool (by rw [Bool.eq_iff_iff, Ln.fewF_iff]; simp; omega), hB0⟩
      · go_enter Try.func25, Try.ntmps25
        go_wp2_with fail
        go_ret
        exact ⟨ret_bool (by rw [Bool.eq_iff_iff, Ln.fewF_iff]; simp; omega), hB0⟩
  · have h3 : n ≤ 2000 := by omega
    rcases Int.lt_or_le p N with h2 | h2
    · rcases Int.lt_or_le 128 N with h4 | h4
      all_goals
        go_enter Try.func25, Try.ntmps25
        go_wp2_with fail
        go_ret
        exact ⟨ret_bool (by rw [Bool.eq_iff_iff, Ln.fewF_iff]; simp; omega), hB0⟩
    · go_enter Try.func25, Try.ntmps25
      go_wp2_with fail
      go_ret
      exact ⟨ret_bool (by rw [Bool.eq_iff_iff, Ln.fewF_iff]; simp; omega), hB0⟩

set_option maxRecDepth 100000 in
theorem some_law (N : Int) (A : Option Addr) (n c : Nat) (hn : n ≤ 9223372036854775807) (w : World) :
    Calls Try.prog 15 #[.agg #[.int .i64 N, .slice A n c]] w fun e w' => e = .returned (.bool (Ln.fewF N n 14 40)) ∧ Below w.heap.size w w' := by
  have hB0 : Below w.heap.size w (w.alloc (.cells #[.int .i64 N, .slice A n c] 24)) := (Below.refl _ _).alloc (Nat.le_refl _) _
  go_enter Try.func15, Try.ntmps15
  go_wp2_with fail
  refine (few_any N A n c 14 40 hn (by omega) (by omega) _).mono ?_
  rintro e w1 ⟨rfl, hb1⟩
  go_wp2_with fail
  go_ret
  exact ⟨rfl, hB0.trans (hb1.mono hB0.size)⟩
set_option maxRecDepth 100000 in
theorem few_law (N : Int) (A : Option Addr) (n c : Nat) (hn : n ≤ 9223372036854775807) (w : World) :
    Calls Try.prog 6 #[.agg #[.int .i64 N, .slice A n c]] w fun e w' => e = .returned (.bool (Ln.fewF N n 8 14)) ∧ Below w.heap.size w w' := by
  have hB0 : Below w.heap.size w (w.alloc (.cells #[.int .i64 N, .slice A n c] 24)) := (Below.refl _ _).alloc (Nat.le_refl _) _
  go_enter Try.func6, Try.ntmps6
  go_wp2_with fail
  refine (few_any N A n c 8 14 hn (by omega) (by omega) _).mono ?_
  rintro e w1 ⟨rfl, hb1⟩
  go_wp2_with fail
  go_ret
  exact ⟨rfl, hB0.trans (hb1.mono hB0.size)⟩

/-- A system that lies boxed at block sb; nothing below w's heap has turned. -/
structure Sy (w W : World) (sb : Nat) (N : Int) (A : Option Addr) (c : Nat) (bs : List Ln.Bd) : Prop where
  bk : Bk W sb 24 #[.int .i64 N, .slice A bs.length c]
  rd : Rd W W.heap.size 4 A bs.length (bcells bs)
  bl : Below w.heap.size w W
section
variable {w W W' : World} {sb : Nat} {N : Int} {A : Option Addr} {c : Nat} {bs : List Ln.Bd}
theorem Sy.step (h : Sy w W sb N A c bs) (hb : Below W.heap.size W W') : Sy w W' sb N A c bs := ⟨h.bk.below hb h.bk.lt, (h.rd.below hb (Nat.le_refl _)).more hb.size, h.bl.trans (hb.mono h.bl.size)⟩
theorem Sy.alloc (h : Sy w W sb N A c bs) (o : Obj) : Sy w (W.alloc o) sb N A c bs := h.step ((Below.refl _ _).alloc (Nat.le_refl _) _)
theorem Sy.drew (h : Sy w W sb N A c bs) : Sy w W.drew sb N A c bs := h.step (Below.refl _ _).drew
theorem Sy.cells (h : Sy w W sb N A c bs) : W.cell? ⟨sb, 0, none⟩ = some (.int .i64 N) ∧ W.cell? ⟨sb, 1, none⟩ = some (.slice A bs.length c) ∧ sb < W.heap.size :=
  ⟨(h.bk.cell 0).trans rfl, (h.bk.cell 1).trans rfl, h.bk.lt⟩
theorem Sy.new (N : Int) (c : Nat) (hR : Rd w w.heap.size 4 A bs.length (bcells bs)) : Sy w (w.alloc (.cells #[.int .i64 N, .slice A bs.length c] 24)) w.heap.size N A c bs :=
  ⟨Bk.new w _ _, (hR.below ((Below.refl _ _).alloc (Nat.le_refl _) _) (Nat.le_refl _)).more (by simp), (Below.refl _ _).alloc (Nat.le_refl _) _⟩
/-- A system that lies boxed, said from a later start on. -/
theorem Sy.from (h : Sy w W sb N A c bs) : Sy W W sb N A c bs := ⟨h.bk, h.rd, Below.refl _ _⟩
end

end Go.Proofs.Yteiaofgkmgllcaa

