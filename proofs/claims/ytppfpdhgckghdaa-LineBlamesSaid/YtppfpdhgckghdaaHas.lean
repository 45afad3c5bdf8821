/-
  The reference's has and insert.
-/
import Derived.Test.YtppfpdhgckghdaaRefA
import Derived.Test.YtppfpdhgckghdaaConcat
import Derived.Test.YtppfpdhgckghdaaApp
import Derived.Deep.QuietTactic
import Derived.BigQuiet
set_option linter.unusedVariables false
set_option linter.unusedSimpArgs false
namespace Go.Proofs.Ytppfpdhgckghdaa
open Go.RowKit Go.Shelf

theorem not_in_take {l : List Int} {n : Int} {k : Nat} (hk : k < l.length) (h : n ∉ l.take k) (hn : l[k] ≠ n) : n ∉ l.take (k + 1) := by
  rw [List.take_succ_eq_append_getElem hk]
  intro hm
  rcases List.mem_append.1 hm with h1 | h1
  · exact h h1
  · exact hn (List.mem_singleton.1 h1).symm

set_option maxRecDepth 100000 in
set_option maxHeartbeats 1000000 in
theorem has_any (A : Option Addr) (c : Nat) (l : List Int) (n : Int) (w : World) (hL : Rd w w.heap.size 1 A l.length (ints l)) (hl : l.length ≤ 1000000) :
    Calls Try.prog 100 #[.slice A l.length c, .int .i64 n] w fun e w' => e = .returned (.bool (decide (n ∈ l))) ∧ Below w.heap.size w w' := by
  go_enter Try.func100, Try.ntmps100
  go_wp2_with fail
  go_loopw [5] (fun i wr => ∃ k : Nat, k ≤ l.length ∧ i = .int .i64 k ∧ n ∉ l.take k ∧ Below w.heap.size w wr)
    (fun i _ => l.length - (intOf i).toNat)
  case atStart => exact ⟨0, Nat.zero_le _, rfl, by simp, Below.refl _ _⟩
  case round =>
    obtain ⟨k, hk, rfl, hno, hB⟩ := hrel
    by_cases hkl : k < l.length
    · obtain ⟨b, off, rfl, hb, e0⟩ := (hL.below hB (Nat.le_refl _)).one hkl
      have hin := List.getElem_mem hkl
      have hst : l[k] ≠ n → n ∉ l.take (k + 1) := not_in_take hkl hno
      obtain ⟨x, hx⟩ : ∃ x, l[k] = x := ⟨_, rfl⟩
      rw [hx] at e0 hin hst
      clear hx hno
      have HS := Lib.hid hst
      have HI := Lib.hid hin
      clear hst hin
      by_cases hxn : x = n
      · subst hxn
        go_wp2_with fail
        go_ret
        exact ⟨ret_bool (by simpa using HI.out), hB⟩
      · have hxb : (x == n) = false := by simpa using hxn
        have HX := Lib.hid hxn
        clear hxn
        go_wp2_with fail
        go_roundw
        case rel => exact ⟨k + 1, by omega, by go_num, HS.out HX.out, hB⟩
        case measure => simp [intOf]; omega
    · have hke : k = l.length := by omega
      have hno2 : n ∉ l := by rw [hke, List.take_length] at hno; exact hno
      have HN := Lib.hid hno2
      clear hno2 hno
      go_wp2_with fail
      go_ret
      exact ⟨ret_bool (by simpa using HN.out), hB⟩

namespace Ln
/-- How many numbers at the front are less than n. -/
def insK (l : List Int) (n : Int) : Nat := (l.takeWhile (fun x => decide (x < n))).length
def insF (l : List Int) (n : Int) : List Int := if l[insK l n]? = some n then l else l.take (insK l n) ++ [n] ++ l.drop (insK l n)
theorem insK_eq {l : List Int} {n : Int} {k : Nat} (hk : k ≤ l.length) (h : ∀ x ∈ l.take k, x < n) (hs : ∀ x, l[k]? = some x → ¬ x < n) : insK l n = k := by
  have e : l = l.take k ++ l.drop k := (List.take_append_drop k l).symm
  have h2 : (l.drop k).takeWhile (fun x => decide (x < n)) = [] := by
    rcases hd : l.drop k with _ | ⟨y, t⟩
    · rfl
    · have hy : l[k]? = some y := by
        have := List.getElem?_drop (xs := l) (i := k) (j := 0)
        rw [hd] at this
        simpa using this.symm
      rw [List.takeWhile_cons, if_neg (by simpa using hs y hy)]
  unfold insK
  conv => lhs; rw [e]
  rw [List.takeWhile_append_of_pos (by intro x hx; simpa using h x hx), h2, List.append_nil, List.length_take]
  omega
theorem insF_same {l : List Int} {n : Int} {k : Nat} (h : insK l n = k) (hk : l[k]? = some n) : insF l n = l := by
  rw [insF, h, if_pos hk]
theorem insF_new {l : List Int} {n : Int} {k : Nat} (h : insK l n = k) (hk : l[k]? ≠ some n) : insF l n = l.take k ++ [n] ++ l.drop k := by
  rw [insF, h, if_neg hk]
end Ln

theorem all_less {l : List Int} {n : Int} {k : Nat} (hk : k < l.length) (h : ∀ x ∈ l.take k, x < n) (hn : l[k] < n) : ∀ x ∈ l.take (k + 1), x < n := by
  rw [List.take_succ_eq_append_getElem hk]
  intro x hx
  rcases List.mem_append.1 hx with h1 | h1
  · exact h x h1
  · rw [List.mem_singleton.1 h1]; exact hn

theorem rd_take {w : World} {B : Nat} {A : Option Addr} {l : List Int} {k : Nat} (h : Rd w B 1 A l.length (ints l)) (hk : k ≤ l.length) : Rd w B 1 A k (ints (l.take k)) := by
  refine ⟨by simp [ints]; omega, fun h0 => ?_⟩
  obtain ⟨b, off, e, hb, hc⟩ := h.2 (by omega)
  refine ⟨b, off, e, hb, fun j hj => ?_⟩
  rw [hc j (by omega)]
  simp [ints, List.getElem?_take, show j < k from by omega]
theorem rd_drop {w : World} {B : Nat} {b off c : Nat} {l : List Int} {k : Nat} (h : Rd w B 1 (some ⟨b, off, none⟩) l.length (ints l)) (hk : k ≤ l.length) (hc : l.length ≤ c) :
    Rd w B 1 (if c = k then some ⟨b, off, none⟩ else some ⟨b, off + k, none⟩) (l.length - k) (ints (l.drop k)) := by
  refine ⟨by simp [ints], fun h0 => ?_⟩
  rw [if_neg (by omega)]
  obtain ⟨b', off', e, hb, hc⟩ := h.2 (by omega)
  cases e
  refine ⟨b, off + k, rfl, hb, fun j hj => ?_⟩
  rw [Nat.add_assoc, hc (k + j) (by omega)]
  simp [ints, List.getElem?_drop]
theorem ints_one (l : List Int) : ∀ u ∈ ints l, u.oneCell' = true := by
  intro u hu
  obtain ⟨x, _, rfl⟩ := List.mem_map.1 hu
  rfl
theorem ints_cat (a b : List Int) : ints (a ++ b) = ints a ++ ints b := by simp [ints]

/-- A list of numbers that is handed on: nil exactly if it is empty. -/
def Sl (w : World) (v : Value) (l : List Int) : Prop := ∃ A c, v = .slice A l.length c ∧ l.length ≤ c ∧ c ≤ maxLen ∧ Rd w w.heap.size 1 A l.length (ints l) ∧ (l = [] → A = none ∧ c = 0)

theorem sl_of_own {w : World} {base : Nat} {v : Value} {l : List Int} (h : w.ownsRow base 3 1 v l.length (ints l)) (hp : 0 < l.length) : Sl w v l := by
  obtain ⟨A, c, e, hrd, _⟩ := ownB_rd h (by simp [ints])
  subst e
  rcases h.2 with ⟨_, h0⟩ | ⟨g, cap, cur, e, _, _, h1, h2, _⟩
  · omega
  · injection e with e1 e2 e3
    subst e3
    exact ⟨A, c, rfl, h1, h2, hrd, fun h => by rw [h] at hp; simp at hp⟩
theorem own_ins {w : World} {base : Nat} {v : Value} {l : List Int} {n : Int} {k m : Nat} (h : w.ownsRow base 3 1 v m ([] ++ ints (l.take k) ++ ints [n] ++ ints (l.drop k))) (hm : m = 0 + k + 1 + (l.length - k)) (hk : k ≤ l.length) (hK : Ln.insK l n = k) (hne : l[k]? ≠ some n) : Sl w v (Ln.insF l n) := by
  rw [Ln.insF_new hK hne]
  have hl : (l.take k ++ [n] ++ l.drop k).length = m := by simp; omega
  refine sl_of_own (base := base) ?_ (by omega)
  rw [hl, ints_cat, ints_cat]
  simpa using h

set_option maxRecDepth 100000 in
set_option maxHeartbeats 2000000 in
theorem rinsert_any (b off c : Nat) (l : List Int) (n : Int) (w : World) (hL : Rd w w.heap.size 1 (some ⟨b, off, none⟩) l.length (ints l)) (hpos : 0 < l.length) (hl : l.length ≤ 100000) (hc : l.length ≤ c) (hcm : c ≤ maxLen) :
    Calls Try.prog 68 #[.slice (some ⟨b, off, none⟩) l.length c, .int .i64 n] w fun e w' => ∃ v', e = .returned v' ∧ Sl w' v' (Ln.insF l n) ∧ Below w.heap.size w w' := by
  obtain ⟨i0, hi0, hz0, hz1, hz2⟩ := info_parts info3
  go_enter Try.func68, Try.ntmps68
  go_wp2_with fail
  go_loopw [5] (fun i wr => ∃ k : Nat, k ≤ l.length ∧ i = .int .i64 k ∧ (∀ x ∈ l.take k, x < n) ∧ wr = w)
    (fun i _ => l.length - (intOf i).toNat)
  case atStart => exact ⟨0, Nat.zero_le _, rfl, by simp, rfl⟩
  case round =>
    obtain ⟨k, hk, rfl, hall, hw⟩ := hrel
    have hw := hw.symm
    subst hw
    by_cases hkl : k < l.length
    · obtain ⟨b', off', hbe, hb, e0⟩ := hL.one hkl
      cases hbe
      have hst : l[k] < n → ∀ x ∈ l.take (k + 1), x < n := all_less hkl hall
      have hkq : ¬ l[k] < n → Ln.insK l n = k := fun h => Ln.insK_eq hk hall (fun x hx => by rw [List.getElem?_eq_getElem hkl] at hx; cases hx; exact h)
      have hge : l[k]? = some l[k] := List.getElem?_eq_getElem hkl
      obtain ⟨x, hx⟩ : ∃ x, l[k] = x := ⟨_, rfl⟩
      rw [hx] at e0 hst hkq hge
      have HS := Lib.hid hst
      have HK := Lib.hid hkq
      have HG := Lib.hid hge
      clear hx hall hst hkq hge
      by_cases hxn : x < n
      · have HX := Lib.hid hxn
        go_wp2_with fail
        go_roundw
        case rel => exact ⟨k + 1, by omega, by go_num, HS.out HX.out, trivial⟩
        case measure => simp [intOf]; omega
      · have HX := Lib.hid hxn
        by_cases hxe : x = n
        · subst hxe
          go_wp2_with fail
          go_ret
          refine ⟨_, rfl, ?_, Below.refl _ _⟩
          rw [Ln.insF_same (HK.out HX.out) HG.out]
          exact ⟨_, c, rfl, hc, hcm, hL, fun h => by rw [h] at hpos; simp at hpos⟩
        · have hxb : (x == n) = false := by simpa using hxe
          have HXE := Lib.hid hxe
          have hxl : decide (x < n) = false := decide_eq_false hxn
          clear hxe hxn
          have hX7 : Below w.heap.size w (w.alloc (.cells #[] 3)) := (Below.refl _ _).alloc (Nat.le_refl _) _
          have o7 := World.ownsRow_lit (base := w.heap.size) (e := 3) (size := 1) w #[] 0 (Nat.le_refl _) (by decide) rfl
          have hLX := (hL.below hX7 (Nat.le_refl _)).more hX7.size
          have hTk := rd_take hLX hk
          go_upto_region 7 with (at_builtin; refine wpList_append_rd rfl _ _ 25 rfl w.heap.size 3 i0 _ 1 8 Try.underlying25 hi0 hz0 hz1 hz2 rfl (by omega) (.slice (some ⟨w.heap.size, 0, none⟩) 0 0) 0 [] rfl o7 (some ⟨b, off, none⟩) k c _ (ints (l.take k)) rfl hTk (ints_one _) (by unfold maxLen; omega) (by omega) (by simp) ?_; intro v6 W6 hown6 hg6 hat6)
          have hB6 : Below w.heap.size w W6 := hX7.grown hg6 hX7.size (fun j e => (o7.lt j e).1)
          have kN : Bk (W6.alloc (.cells #[.int .i64 n] 3)).drew W6.heap.size 3 (av [n]) := Bk.new W6 _ _
          have hNw := bk_rd (size := 1) (n := 1) kN rfl
          have hB7 : Below w.heap.size w (W6.alloc (.cells #[.int .i64 n] 3)).drew := (hB6.alloc hB6.size _).drew
          have hown7 : (W6.alloc (.cells #[.int .i64 n] 3)).drew.ownsRow w.heap.size 3 1 v6 (0 + k) ([] ++ ints (l.take k)) := (hown6.alloc _).drew
          have HLL := Lib.hid fun W (hb : Below w.heap.size w W) => rd_drop ((hL.below hb (Nat.le_refl _)).more hb.size) hk hc
          have HEND := Lib.hid fun (W : World) (v : Value) h => own_ins (w := W) (base := w.heap.size) (v := v) (l := l) (n := n) (k := k) h rfl hk (HK.out HX.out) (by rw [HG.out]; intro e; cases e; exact HXE.out rfl)
          have T7 : True := trivial
          clear hX7 o7 hLX hTk hg6 hat6 hown6 hL kN
          go_region_held3 (fun _ => True) (trivial)
            (first
              | (refine step_append_rd rfl (.tmp 39) (.tmp 41) 25 rfl w.heap.size 3 i0 _ 1 8 Try.underlying25 hi0 hz0 hz1 hz2 rfl (by omega) v6 (0 + k) ([] ++ ints (l.take k)) (by rfl) hown7 (some ⟨W6.heap.size, 0, none⟩) 1 1 _ (ints [n]) (by rfl) hNw (ints_one _) (by unfold maxLen; omega) (by omega) hB7.size ?_; intro v8 W8 hown8 hg8 hat8; have hB8 : Below w.heap.size w W8 := hB7.grown hg8 hB7.size (fun j e => (hown7.lt j e).1))
              | (refine step_append_rd rfl (.tmp 42) (.tmp 45) 25 rfl w.heap.size 3 i0 _ 1 8 Try.underlying25 hi0 hz0 hz1 hz2 rfl (by omega) v8 (0 + k + 1) ([] ++ ints (l.take k) ++ ints [n]) (by rfl) hown8 (if c = k then some ⟨b, off, none⟩ else some ⟨b, off + k, none⟩) (l.length - k) (c - k) _ (ints (l.drop k)) (by rfl) (HLL.out _ hB8) (ints_one _) (by unfold maxLen; omega) (by omega) hB8.size ?_; intro v9 W9 hown9 hg9 hat9; have hB9 : Below w.heap.size w W9 := hB8.grown hg9 hB8.size (fun j e => (hown8.lt j e).1)))
          all_goals
            have HO := Lib.hid hown9
            clear hown9
            go_wp2_with fail
            all_goals
              go_ret
              exact ⟨_, rfl, HEND.out _ _ HO.out, hB9⟩
    · have hke : k = l.length := by omega
      subst hke
      have hkq : Ln.insK l n = l.length := Ln.insK_eq hk hall (fun x hx => by simp at hx)
      have HK := Lib.hid hkq
      clear hkq hall
      have hX7 : Below w.heap.size w (w.alloc (.cells #[] 3)) := (Below.refl _ _).alloc (Nat.le_refl _) _
      have o7 := World.ownsRow_lit (base := w.heap.size) (e := 3) (size := 1) w #[] 0 (Nat.le_refl _) (by decide) rfl
      have hLX := (hL.below hX7 (Nat.le_refl _)).more hX7.size
      have hTk := rd_take hLX hk
      go_upto_region 7 with (at_builtin; refine wpList_append_rd rfl _ _ 25 rfl w.heap.size 3 i0 _ 1 8 Try.underlying25 hi0 hz0 hz1 hz2 rfl (by omega) (.slice (some ⟨w.heap.size, 0, none⟩) 0 0) 0 [] rfl o7 (some ⟨b, off, none⟩) l.length c _ (ints (l.take l.length)) rfl hTk (ints_one _) (by unfold maxLen; omega) (by omega) (by simp) ?_; intro v6 W6 hown6 hg6 hat6)
      have hB6 : Below w.heap.size w W6 := hX7.grown hg6 hX7.size (fun j e => (o7.lt j e).1)
      have kN : Bk (W6.alloc (.cells #[.int .i64 n] 3)).drew W6.heap.size 3 (av [n]) := Bk.new W6 _ _
      have hNw := bk_rd (size := 1) (n := 1) kN rfl
      have hB7 : Below w.heap.size w (W6.alloc (.cells #[.int .i64 n] 3)).drew := (hB6.alloc hB6.size _).drew
      have hown7 : (W6.alloc (.cells #[.int .i64 n] 3)).drew.ownsRow w.heap.size 3 1 v6 (0 + l.length) ([] ++ ints (l.take l.length)) := (hown6.alloc _).drew
      have HLL := Lib.hid fun W (hb : Below w.heap.size w W) => (by have h := rd_drop ((hL.below hb (Nat.le_refl _)).more hb.size) (Nat.le_refl _) hc; rwa [Nat.sub_self] at h : Rd W W.heap.size 1 (if c = l.length then some ⟨b, off, none⟩ else some ⟨b, off + l.length, none⟩) 0 (ints (l.drop l.length)))
      have HEND := Lib.hid fun (W : World) (v : Value) h => own_ins (w := W) (base := w.heap.size) (v := v) (l := l) (n := n) (k := l.length) (m := 0 + l.length + 1 + 0) h (by omega) (Nat.le_refl _) HK.out (by simp)
      have T7 : True := trivial
      clear hX7 o7 hLX hTk hg6 hat6 hown6 hL kN
      go_region_held3 (fun _ => True) (trivial)
        (first
          | (refine step_append_rd rfl (.tmp 39) (.tmp 41) 25 rfl w.heap.size 3 i0 _ 1 8 Try.underlying25 hi0 hz0 hz1 hz2 rfl (by omega) v6 (0 + l.length) ([] ++ ints (l.take l.length)) (by rfl) hown7 (some ⟨W6.heap.size, 0, none⟩) 1 1 _ (ints [n]) (by rfl) hNw (ints_one _) (by unfold maxLen; omega) (by omega) hB7.size ?_; intro v8 W8 hown8 hg8 hat8; have hB8 : Below w.heap.size w W8 := hB7.grown hg8 hB7.size (fun j e => (hown7.lt j e).1))
          | (refine step_append_rd rfl (.tmp 42) (.tmp 45) 25 rfl w.heap.size 3 i0 _ 1 8 Try.underlying25 hi0 hz0 hz1 hz2 rfl (by omega) v8 (0 + l.length + 1) ([] ++ ints (l.take l.length) ++ ints [n]) (by rfl) hown8 (if c = l.length then some ⟨b, off, none⟩ else some ⟨b, off + l.length, none⟩) 0 (c - l.length) _ (ints (l.drop l.length)) (by rfl) (HLL.out _ hB8) (ints_one _) (by unfold maxLen; omega) (by omega) hB8.size ?_; intro v9 W9 hown9 hg9 hat9; have hB9 : Below w.heap.size w W9 := hB8.grown hg9 hB8.size (fun j e => (hown8.lt j e).1)))
      all_goals
        have HO := Lib.hid hown9
        clear hown9
        go_wp2_with fail
        all_goals
          go_ret
          exact ⟨_, rfl, HEND.out _ _ HO.out, hB9⟩

set_option maxRecDepth 100000 in
set_option maxHeartbeats 2000000 in
theorem rinsert_nil (n : Int) (w : World) :
    Calls Try.prog 68 #[.slice none 0 0, .int .i64 n] w fun e w' => ∃ v', e = .returned v' ∧ Sl w' v' (Ln.insF [] n) ∧ Below w.heap.size w w' := by
  obtain ⟨i0, hi0, hz0, hz1, hz2⟩ := info_parts info3
  have HEND := Lib.hid fun (W : World) (v : Value) h => own_ins (w := W) (base := w.heap.size) (v := v) (l := []) (n := n) (k := 0) (m := 0 + 0 + 1 + 0) h (by simp) (by simp) rfl (by simp)
  go_enter Try.func68, Try.ntmps68
  go_wp2_with fail
  go_loopw [5] (fun i wr => i = .int .i64 0 ∧ wr = w) (fun i _ => 0)
  case atStart => exact ⟨rfl, rfl⟩
  case round =>
    obtain ⟨rfl, hw⟩ := hrel
    have hw := hw.symm
    subst hw
    have hX7 : Below w.heap.size w (w.alloc (.cells #[] 3)) := (Below.refl _ _).alloc (Nat.le_refl _) _
    have o7 := World.ownsRow_lit (base := w.heap.size) (e := 3) (size := 1) w #[] 0 (Nat.le_refl _) (by decide) rfl
    have hTk : Rd (w.alloc (.cells #[] 3)) (w.alloc (.cells #[] 3)).heap.size 1 none 0 (ints []) := Rd.nil _ _ _ _
    go_upto_region 7 with (at_builtin; refine wpList_append_rd rfl _ _ 25 rfl w.heap.size 3 i0 _ 1 8 Try.underlying25 hi0 hz0 hz1 hz2 rfl (by omega) (.slice (some ⟨w.heap.size, 0, none⟩) 0 0) 0 [] rfl o7 none 0 0 _ (ints []) rfl hTk (ints_one _) (by unfold maxLen; omega) (by omega) (by simp) ?_; intro v6 W6 hown6 hg6 hat6)
    have hB6 : Below w.heap.size w W6 := hX7.grown hg6 hX7.size (fun j e => (o7.lt j e).1)
    have kN : Bk (W6.alloc (.cells #[.int .i64 n] 3)).drew W6.heap.size 3 (av [n]) := Bk.new W6 _ _
    have hNw := bk_rd (size := 1) (n := 1) kN rfl
    have hB7 : Below w.heap.size w (W6.alloc (.cells #[.int .i64 n] 3)).drew := (hB6.alloc hB6.size _).drew
    have hown7 : (W6.alloc (.cells #[.int .i64 n] 3)).drew.ownsRow w.heap.size 3 1 v6 (0 + 0) ([] ++ ints []) := (hown6.alloc _).drew
    have T7 : True := trivial
    clear hX7 o7 hTk hg6 hat6 hown6 kN
    go_region_held3 (fun _ => True) (trivial)
      (first
        | (refine step_append_rd rfl (.tmp 39) (.tmp 41) 25 rfl w.heap.size 3 i0 _ 1 8 Try.underlying25 hi0 hz0 hz1 hz2 rfl (by omega) v6 (0 + 0) ([] ++ ints []) (by rfl) hown7 (some ⟨W6.heap.size, 0, none⟩) 1 1 _ (ints [n]) (by rfl) hNw (ints_one _) (by unfold maxLen; omega) (by omega) hB7.size ?_; intro v8 W8 hown8 hg8 hat8; have hB8 : Below w.heap.size w W8 := hB7.grown hg8 hB7.size (fun j e => (hown7.lt j e).1))
        | (refine step_append_rd rfl (.tmp 42) (.tmp 45) 25 rfl w.heap.size 3 i0 _ 1 8 Try.underlying25 hi0 hz0 hz1 hz2 rfl (by omega) v8 (0 + 0 + 1) ([] ++ ints [] ++ ints [n]) (by rfl) hown8 none 0 0 _ (ints []) (by rfl) (Rd.nil _ W8.heap.size _ _) (ints_one _) (by unfold maxLen; omega) (by omega) hB8.size ?_; intro v9 W9 hown9 hg9 hat9; have hB9 : Below w.heap.size w W9 := hB8.grown hg9 hB8.size (fun j e => (hown8.lt j e).1)))
    all_goals
      have HO := Lib.hid hown9
      clear hown9
      go_wp2_with fail
      all_goals
        go_ret
        exact ⟨_, rfl, HEND.out _ _ HO.out, hB9⟩

theorem insert_sl (v : Value) (l : List Int) (n : Int) (w : World) (h : Sl w v l) (hl : l.length ≤ 100000) :
    Calls Try.prog 68 #[v, .int .i64 n] w fun e w' => ∃ v', e = .returned v' ∧ Sl w' v' (Ln.insF l n) ∧ Below w.heap.size w w' := by
  obtain ⟨A, c, rfl, h1, h2, hrd, h0⟩ := h
  by_cases hp : l = []
  · obtain ⟨rfl, rfl⟩ := h0 hp
    subst hp
    exact rinsert_nil n w
  · have hp : 0 < l.length := List.length_pos_iff.2 hp
    obtain ⟨b, off, rfl, _⟩ := hrd.2 hp
    exact rinsert_any b off c l n w hrd hp hl h1 h2

end Go.Proofs.Ytppfpdhgckghdaa
