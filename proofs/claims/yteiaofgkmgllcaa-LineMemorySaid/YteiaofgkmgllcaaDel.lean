/-
  slices.IndexFunc and slices.DeleteFunc at the closures of Needless and Blame.
-/
import Derived.Lib.SlKept
import Derived.Lib.SliceRun
import Derived.Laws.IdiomCopy
import Derived.Test.YteiaofgkmgllcaaRec
set_option linter.unusedVariables false
set_option linter.unusedSimpArgs false
namespace Go.Proofs.Yteiaofgkmgllcaa
open Go.RowKit Go.Shelf Go.Sort Go.Lib

theorem holds_blk {w w' : World} {g : Nat} {d : Array Int} (h : Holds (Value.int .i64) w g 0 d) (hb : w'.heap[g]? = w.heap[g]?) : Holds (Value.int .i64) w' g 0 d := fun j hj =>
  ⟨by rw [World.cell?_of_block hb]; exact (h j hj).1, by
    have := (h j hj).2
    unfold World.frozen? at this ⊢
    simp only at this ⊢
    rw [hb]
    exact this⟩
theorem holds_set {w : World} {g : Nat} {d : Array Int} (i : Nat) (u : Int) (h : Holds (Value.int .i64) w g 0 d) : Holds (Value.int .i64) (w.setCell ⟨g, i, none⟩ (.int .i64 u)) g 0 (d.setIfInBounds i u) := fun j hj => by
  have hj' : j < d.size := by simpa using hj
  refine ⟨?_, by rw [World.frozen?_setCell]; exact (h j hj').2⟩
  rw [Nat.zero_add]
  have hc := (h j hj').1
  rw [Nat.zero_add] at hc
  by_cases e : j = i
  · subst e
    rw [World.cell?_setCell_same (h := hc), getElem!_set_same d j u hj']
  · rw [World.cell?_setCell_other _ _ _ _ (fun h => e (by injection h with _ h2 _; first | exact h2 | exact h2.symm)), hc, getElem!_set_other d i j u e]
theorem keepX_setCells {M g : Nat} {X : Nat → Prop} {a : World} (hp : g < M → X g) : ∀ (vs : List Value) (o : Nat) {w : World}, KeepX M X a w → KeepX M X a (w.setCells g o vs)
  | [], _, _, h => h
  | v :: r, o, _, h => keepX_setCells hp r (o + 1) (h.setCell (p := ⟨g, o, none⟩) hp v)

set_option maxRecDepth 100000 in
set_option maxHeartbeats 1000000 in
theorem index_needless (g cap : Nat) (d : Array Int) (p : Int → Bool) (cb : Nat) (v : Int) (hv : (v = -1 ∧ ∀ j, j < d.size → p d[j]! = false) ∨ ∃ k0 : Nat, v = k0 ∧ k0 < d.size ∧ p d[k0]! = true ∧ ∀ j, j < k0 → p d[j]! = false) (w : World) (hH : Holds (Value.int .i64) w g 0 d) (hg : g < w.heap.size) (hsz : d.size ≤ 1000000)
    (hcall : ∀ j, j < d.size → ∀ W, KeepX w.heap.size (fun k => k = g) w W → Calls Try.prog 61 #[.int .i64 d[j]!, .pointer (some ⟨cb, 0, none⟩)] W fun e w' => e = .returned (.bool (p d[j]!)) ∧ Below W.heap.size W w') :
    Calls Try.prog 85 #[.slice (some ⟨g, 0, none⟩) d.size cap, .func (.func 61) #[] #[.pointer (some ⟨cb, 0, none⟩)]] w fun e w' => e = .returned (.int .i64 v) ∧ Below w.heap.size w w' := by
  have HC := Lib.hid hcall
  have HV := Lib.hid hv
  have HH := Lib.hid hH
  clear hcall hv hH
  go_enter Try.func85, Try.ntmps85
  go_wp2_with fail
  go_loopw [8] (fun i wr => ∃ k : Nat, k ≤ d.size ∧ i = .int .i64 k ∧ (∀ j, j < k → p d[j]! = false) ∧ Below w.heap.size w wr)
    (fun i _ => d.size - (intOf i).toNat)
  case atStart => exact ⟨0, Nat.zero_le _, rfl, (fun j hj => absurd hj (by omega)), Below.refl _ _⟩
  case round =>
    obtain ⟨k, hk, rfl, ha, hB⟩ := hrel
    have HA := Lib.hid ha
    have hBs := hB.size
    clear ha
    by_cases hkl : k < d.size
    · have e0 := (hB.cell (p := ⟨g, 0 + k, none⟩) hg).trans (HH.out k hkl).1
      rw [Nat.zero_add] at e0
      have hc := HC.out k hkl wr (KeepX.of_below hB _)
      obtain ⟨x, hx⟩ : ∃ x, d[k]! = x := ⟨_, rfl⟩
      rw [hx] at e0 hc
      have HCC := Lib.hid hc
      have HX := Lib.hid hx
      clear hc hx
      rcases hp : p x with _ | _
      · go_wp2_with (go_at_call 61; refine HCC.out.mono ?_; rw [hp]; rintro e w2 ⟨rfl, hb2⟩)
        go_roundw
        case rel =>
          refine ⟨k + 1, by omega, by go_num, fun j hj => ?_, hB.trans (hb2.mono hBs)⟩
          rcases Nat.lt_or_ge j k with h | h
          · exact HA.out j h
          · obtain rfl : j = k := by omega
            rw [HX.out]
            exact hp
        case measure => simp [intOf]; omega
      · go_wp2_with (go_at_call 61; refine HCC.out.mono ?_; rw [hp]; rintro e w2 ⟨rfl, hb2⟩)
        go_ret
        rcases HV.out with ⟨_, hall⟩ | ⟨k0, rfl, h0, h1, h2⟩
        · have := hall k hkl
          rw [HX.out, hp] at this
          cases this
        · have : k = k0 := by
            rcases Nat.lt_trichotomy k k0 with h | h | h
            · have := h2 k h
              rw [HX.out, hp] at this
              cases this
            · exact h
            · have := HA.out k0 h
              rw [h1] at this
              cases this
          subst this
          exact ⟨rfl, hB.trans (hb2.mono hBs)⟩
    · obtain rfl : k = d.size := by omega
      go_wp2_with fail
      go_ret
      rcases HV.out with ⟨rfl, _⟩ | ⟨k0, rfl, h0, h1, h2⟩
      · exact ⟨rfl, hB⟩
      · have := HA.out k0 h0
        rw [h1] at this
        cases this

set_option maxRecDepth 100000 in
set_option maxHeartbeats 2000000 in
theorem delete_needless (g cap : Nat) (d : Array Int) (p : Int → Bool) (cb : Nat) (w : World) (hH : Holds (Value.int .i64) w g 0 d) (hg : g < w.heap.size) (hsz : d.size ≤ 1000000) (hcap : d.size ≤ cap)
    (hcall : ∀ j, j < d.size → ∀ W, KeepX w.heap.size (fun k => k = g) w W → Calls Try.prog 61 #[.int .i64 d[j]!, .pointer (some ⟨cb, 0, none⟩)] W fun e w' => e = .returned (.bool (p d[j]!)) ∧ Below W.heap.size W w') :
    Calls Try.prog 59 #[.slice (some ⟨g, 0, none⟩) d.size cap, .func (.func 61) #[] #[.pointer (some ⟨cb, 0, none⟩)]] w fun e w' =>
      e = .returned (.slice (some ⟨g, 0, none⟩) (d.toList.filter fun x => !p x).length cap) ∧ Holds (Value.int .i64) w' g 0 (d.toList.filter fun x => !p x).toArray ∧ KeepX w.heap.size (fun k => k = g) w w' := by
  obtain ⟨kp, HK⟩ : ∃ kp : Nat → Bool, Hid (kp = fun j => !p d[j]!) := ⟨_, rfl⟩
  have hfil : (d.toList.filter fun x => !p x) = keptUpTo kp d d.size := by rw [HK.out]; exact (keptUpTo_filter (fun x => !p x) d).symm
  rw [hfil]
  clear hfil
  have HC := Lib.hid hcall
  have HH := Lib.hid hH
  by_cases hall : ∀ j, j < d.size → p d[j]! = false
  · have hidx := index_needless g cap d p cb (-1) (.inl ⟨rfl, hall⟩) w hH hg hsz hcall
    have hkeep : ∀ j, j < d.size → kp j = true := fun j hj => by rw [HK.out]; show (!p d[j]!) = true; rw [hall j hj]; rfl
    have e3 : keptUpTo kp d d.size = d.toList := by rw [keptUpTo_all kp d _ hkeep, range_map_get]
    rw [e3]
    have HI := Lib.hid hidx
    clear hidx hkeep e3 hall hcall hH
    go_enter Try.func59, Try.ntmps59
    go_wp2_with (go_at_call 85; refine HI.out.mono ?_; rintro e w2 ⟨rfl, hb2⟩)
    go_ret
    refine ⟨by simp, ?_, KeepX.of_below hb2 _⟩
    rw [Array.toArray_toList]
    exact holds_blk HH.out (hb2.block g hg)
  · obtain ⟨k0, hk0, hp0, hlow⟩ : ∃ k0, k0 < d.size ∧ p d[k0]! = true ∧ ∀ j, j < k0 → p d[j]! = false := by
      have hex : ∃ k, k < d.size ∧ p d[k]! = true := by
        refine Classical.byContradiction fun hno => hall fun j hj => ?_
        rcases h : p d[j]! with _ | _
        · rfl
        · exact absurd ⟨j, hj, h⟩ hno
      obtain ⟨k, hk, hkp⟩ := hex
      induction k using Nat.strongRecOn with
      | ind k ih =>
        by_cases hl : ∀ j, j < k → p d[j]! = false
        · exact ⟨k, hk, hkp, hl⟩
        · obtain ⟨j, hj⟩ := Classical.not_forall.1 hl
          obtain ⟨hj1, hj2⟩ := Classical.not_imp.1 hj
          exact ih j hj1 (by omega) (by simpa using hj2)
    have hidx := index_needless g cap d p cb k0 (.inr ⟨k0, rfl, hk0, hp0, hlow⟩) w hH hg hsz hcall
    have hkeep : ∀ j, j < k0 → kp j = true := fun j hj => by rw [HK.out]; show (!p d[j]!) = true; rw [hlow j hj]; rfl
    have hdrop : kp k0 = false := by rw [HK.out]; show (!p d[k0]!) = false; rw [hp0]; rfl
    have hne1 : ((k0 : Int) == -1) = false := beq_eq_false_iff_ne.2 (by omega)
    have hk00 : (0 : Int) ≤ (k0 : Int) := Int.natCast_nonneg _
    have hk01 : (k0 : Int) < d.size := by omega
    have HI := Lib.hid hidx
    have I0 := Lib.hid (KeptInv.start (d := d) hkeep hdrop)
    clear hidx hall hcall hH hp0 hlow hkeep hdrop
    go_enter Try.func59, Try.ntmps59
    go_wp2_with (go_at_call 85; refine HI.out.mono ?_; rintro e w2 ⟨rfl, hb2⟩)
    go_loopw [5, 6] (fun s5 s6 wr => ∃ (i j : Nat) (dk : Array Int), s5 = .int .i64 i ∧ s6 = .int .i64 j ∧ j ≤ d.size ∧ Holds (Value.int .i64) wr g 0 dk ∧ KeptInv kp d j i dk ∧ KeepX w.heap.size (fun k => k = g) w wr)
      (fun _ s6 _ => d.size - (intOf s6).toNat)
    case atStart => exact ⟨k0, k0 + 1, d, rfl, by go_num, by omega, holds_blk HH.out (hb2.block g hg), I0.out, KeepX.of_below hb2 _⟩
    case round =>
      clear hb2
      obtain ⟨i, j, dk, rfl, rfl, hjd, hHk, hI, hK⟩ := hrel
      have hij := hI.lt
      have hds := hI.size
      have hKs := hK.size
      by_cases hlt : j < d.size
      · have hj0 : (0 : Int) ≤ (j : Int) := Int.natCast_nonneg _
        have hj1 : (j : Int) < d.size := by omega
        have hi0 : (0 : Int) ≤ (i : Int) := Int.natCast_nonneg _
        have hi1 : (i : Int) < d.size := by omega
        have cj := (hHk j (by omega)).1
        rw [hI.high j (by omega), Nat.zero_add] at cj
        have ci := (hHk i (by omega)).1
        rw [Nat.zero_add] at ci
        have hc := HC.out j hlt wr hK
        obtain ⟨u, hu⟩ : ∃ u, d[j]! = u := ⟨_, rfl⟩
        obtain ⟨old, hold⟩ : ∃ old, dk[i]! = old := ⟨_, rfl⟩
        rw [hu] at cj hc
        rw [hold] at ci
        have HCC := Lib.hid hc
        have HU := Lib.hid hu
        have HHK := Lib.hid hHk
        have HII := Lib.hid hI
        clear hc hu hold hHk hI
        rcases hp : p u with _ | _
        · go_wp2_with (go_at_call 61; refine HCC.out.mono ?_; rw [hp]; rintro e w3 ⟨rfl, hb3⟩; have hH3 := holds_blk HHK.out (hb3.block g (by omega)); have fi := (hH3 i (by omega)).2; rw [Nat.zero_add] at fi; have ci3 := (hb3.cell (p := ⟨g, i, none⟩) (by simp; omega)).trans ci; have hg3 : g < w3.heap.size := Nat.lt_of_lt_of_le (by omega) hb3.size)
          have hH4 := holds_set i u hH3
          have hK4 := (hK.trans (KeepX.of_below (hb3.mono hKs) _)).setCell (p := ⟨g, i, none⟩) (fun _ => rfl) (.int .i64 u)
          have REL := Lib.hid (And.intro hH4 hK4)
          clear hH4 hK4 hH3
          go_roundw
          case rel =>
            refine ⟨i + 1, j + 1, dk.setIfInBounds i u, by go_num, by go_num, by omega, REL.out.1, ?_, REL.out.2⟩
            have := HII.out.keep hlt (by rw [HK.out]; show (!p d[j]!) = true; rw [HU.out, hp]; rfl)
            rwa [HU.out] at this
          case measure => simp [intOf]; omega
        · go_wp2_with (go_at_call 61; refine HCC.out.mono ?_; rw [hp]; rintro e w3 ⟨rfl, hb3⟩)
          go_roundw
          case rel =>
            exact ⟨i, j + 1, dk, rfl, by go_num, by omega, holds_blk HHK.out (hb3.block g (by omega)), HII.out.skip (by rw [HK.out]; show (!p d[j]!) = false; rw [HU.out, hp]; rfl), hK.trans (KeepX.of_below (hb3.mono hKs) _)⟩
          case measure => simp [intOf]; omega
      · obtain rfl : j = d.size := by omega
        have hltz : ¬ (d.size : Int) < (d.size : Int) := by omega
        have hi0 : (0 : Int) ≤ (i : Int) := Int.natCast_nonneg _
        have hi1 : (i : Int) < d.size := by omega
        have hcl : ∀ ty, (Builtin.clear_ #[25] ty #[.slice (some ⟨g, i, none⟩) (d.size - i) (cap - i)]).run Try.prog wr = .ok (.tuple #[]) (wr.setCells g i (List.replicate (d.size - i) (.int .i64 0))) :=
          fun ty => Lib.run_clear_slice wr _ _ ty _ Try.underlying25 (fun w => rfl) rfl rfl g i _ _ (by omega) (fun t ht => by have := (hHk (i + t) (by omega)).1; rw [Nat.zero_add] at this; rw [this]; rfl) (fun t ht => by have := (hHk (i + t) (by omega)).2; rw [Nat.zero_add] at this; exact this)
        have HHK := Lib.hid hHk
        have HII := Lib.hid hI
        clear hHk hI
        go_wp2_with fail
        go_ret
        have hI := HII.out
        refine ⟨by rw [hI.len]; rfl, fun t ht => ?_, keepX_setCells (X := fun k => k = g) (fun _ => rfl) _ _ hK⟩
        have ht' : t < (keptUpTo kp d d.size).length := by simpa using ht
        have hti : t < i := by rw [hI.len] at ht'; exact ht'
        have hlow := hI.low t hti
        refine ⟨?_, ?_⟩
        · rw [World.cell?_setCells_out g _ _ _ _ (fun _ _ => .inl (by simp; omega)), (HHK.out t (by omega)).1]
          rw [List.getElem?_eq_getElem ht'] at hlow
          simp only [Option.some.injEq] at hlow
          rw [← hlow]
          simp [ht']
        · rw [World.frozen?_setCells]
          exact (HHK.out t (by omega)).2

set_option maxRecDepth 100000 in
set_option maxHeartbeats 1000000 in
theorem index_blame (g cap : Nat) (d : Array Int) (p : Int → Bool) (cb : Nat) (v : Int) (hv : (v = -1 ∧ ∀ j, j < d.size → p d[j]! = false) ∨ ∃ k0 : Nat, v = k0 ∧ k0 < d.size ∧ p d[k0]! = true ∧ ∀ j, j < k0 → p d[j]! = false) (w : World) (hH : Holds (Value.int .i64) w g 0 d) (hg : g < w.heap.size) (hsz : d.size ≤ 1000000)
    (hcall : ∀ j, j < d.size → ∀ W, KeepX w.heap.size (fun k => k = g) w W → Calls Try.prog 64 #[.int .i64 d[j]!, .pointer (some ⟨cb, 0, none⟩)] W fun e w' => e = .returned (.bool (p d[j]!)) ∧ Below W.heap.size W w') :
    Calls Try.prog 85 #[.slice (some ⟨g, 0, none⟩) d.size cap, .func (.func 64) #[] #[.pointer (some ⟨cb, 0, none⟩)]] w fun e w' => e = .returned (.int .i64 v) ∧ Below w.heap.size w w' := by
  have HC := Lib.hid hcall
  have HV := Lib.hid hv
  have HH := Lib.hid hH
  clear hcall hv hH
  go_enter Try.func85, Try.ntmps85
  go_wp2_with fail
  go_loopw [8] (fun i wr => ∃ k : Nat, k ≤ d.size ∧ i = .int .i64 k ∧ (∀ j, j < k → p d[j]! = false) ∧ Below w.heap.size w wr)
    (fun i _ => d.size - (intOf i).toNat)
  case atStart => exact ⟨0, Nat.zero_le _, rfl, (fun j hj => absurd hj (by omega)), Below.refl _ _⟩
  case round =>
    obtain ⟨k, hk, rfl, ha, hB⟩ := hrel
    have HA := Lib.hid ha
    have hBs := hB.size
    clear ha
    by_cases hkl : k < d.size
    · have e0 := (hB.cell (p := ⟨g, 0 + k, none⟩) hg).trans (HH.out k hkl).1
      rw [Nat.zero_add] at e0
      have hc := HC.out k hkl wr (KeepX.of_below hB _)
      obtain ⟨x, hx⟩ : ∃ x, d[k]! = x := ⟨_, rfl⟩
      rw [hx] at e0 hc
      have HCC := Lib.hid hc
      have HX := Lib.hid hx
      clear hc hx
      rcases hp : p x with _ | _
      · go_wp2_with (go_at_call 64; refine HCC.out.mono ?_; rw [hp]; rintro e w2 ⟨rfl, hb2⟩)
        go_roundw
        case rel =>
          refine ⟨k + 1, by omega, by go_num, fun j hj => ?_, hB.trans (hb2.mono hBs)⟩
          rcases Nat.lt_or_ge j k with h | h
          · exact HA.out j h
          · obtain rfl : j = k := by omega
            rw [HX.out]
            exact hp
        case measure => simp [intOf]; omega
      · go_wp2_with (go_at_call 64; refine HCC.out.mono ?_; rw [hp]; rintro e w2 ⟨rfl, hb2⟩)
        go_ret
        rcases HV.out with ⟨_, hall⟩ | ⟨k0, rfl, h0, h1, h2⟩
        · have := hall k hkl
          rw [HX.out, hp] at this
          cases this
        · have : k = k0 := by
            rcases Nat.lt_trichotomy k k0 with h | h | h
            · have := h2 k h
              rw [HX.out, hp] at this
              cases this
            · exact h
            · have := HA.out k0 h
              rw [h1] at this
              cases this
          subst this
          exact ⟨rfl, hB.trans (hb2.mono hBs)⟩
    · obtain rfl : k = d.size := by omega
      go_wp2_with fail
      go_ret
      rcases HV.out with ⟨rfl, _⟩ | ⟨k0, rfl, h0, h1, h2⟩
      · exact ⟨rfl, hB⟩
      · have := HA.out k0 h0
        rw [h1] at this
        cases this

set_option maxRecDepth 100000 in
set_option maxHeartbeats 2000000 in
theorem delete_blame (g cap : Nat) (d : Array Int) (p : Int → Bool) (cb : Nat) (w : World) (hH : Holds (Value.int .i64) w g 0 d) (hg : g < w.heap.size) (hsz : d.size ≤ 1000000) (hcap : d.size ≤ cap)
    (hcall : ∀ j, j < d.size → ∀ W, KeepX w.heap.size (fun k => k = g) w W → Calls Try.prog 64 #[.int .i64 d[j]!, .pointer (some ⟨cb, 0, none⟩)] W fun e w' => e = .returned (.bool (p d[j]!)) ∧ Below W.heap.size W w') :
    Calls Try.prog 59 #[.slice (some ⟨g, 0, none⟩) d.size cap, .func (.func 64) #[] #[.pointer (some ⟨cb, 0, none⟩)]] w fun e w' =>
      e = .returned (.slice (some ⟨g, 0, none⟩) (d.toList.filter fun x => !p x).length cap) ∧ Holds (Value.int .i64) w' g 0 (d.toList.filter fun x => !p x).toArray ∧ KeepX w.heap.size (fun k => k = g) w w' := by
  obtain ⟨kp, HK⟩ : ∃ kp : Nat → Bool, Hid (kp = fun j => !p d[j]!) := ⟨_, rfl⟩
  have hfil : (d.toList.filter fun x => !p x) = keptUpTo kp d d.size := by rw [HK.out]; exact (keptUpTo_filter (fun x => !p x) d).symm
  rw [hfil]
  clear hfil
  have HC := Lib.hid hcall
  have HH := Lib.hid hH
  by_cases hall : ∀ j, j < d.size → p d[j]! = false
  · have hidx := index_blame g cap d p cb (-1) (.inl ⟨rfl, hall⟩) w hH hg hsz hcall
    have hkeep : ∀ j, j < d.size → kp j = true := fun j hj => by rw [HK.out]; show (!p d[j]!) = true; rw [hall j hj]; rfl
    have e3 : keptUpTo kp d d.size = d.toList := by rw [keptUpTo_all kp d _ hkeep, range_map_get]
    rw [e3]
    have HI := Lib.hid hidx
    clear hidx hkeep e3 hall hcall hH
    go_enter Try.func59, Try.ntmps59
    go_wp2_with (go_at_call 85; refine HI.out.mono ?_; rintro e w2 ⟨rfl, hb2⟩)
    go_ret
    refine ⟨by simp, ?_, KeepX.of_below hb2 _⟩
    rw [Array.toArray_toList]
    exact holds_blk HH.out (hb2.block g hg)
  · obtain ⟨k0, hk0, hp0, hlow⟩ : ∃ k0, k0 < d.size ∧ p d[k0]! = true ∧ ∀ j, j < k0 → p d[j]! = false := by
      have hex : ∃ k, k < d.size ∧ p d[k]! = true := by
        refine Classical.byContradiction fun hno => hall fun j hj => ?_
        rcases h : p d[j]! with _ | _
        · rfl
        · exact absurd ⟨j, hj, h⟩ hno
      obtain ⟨k, hk, hkp⟩ := hex
      induction k using Nat.strongRecOn with
      | ind k ih =>
        by_cases hl : ∀ j, j < k → p d[j]! = false
        · exact ⟨k, hk, hkp, hl⟩
        · obtain ⟨j, hj⟩ := Classical.not_forall.1 hl
          obtain ⟨hj1, hj2⟩ := Classical.not_imp.1 hj
          exact ih j hj1 (by omega) (by simpa using hj2)
    have hidx := index_blame g cap d p cb k0 (.inr ⟨k0, rfl, hk0, hp0, hlow⟩) w hH hg hsz hcall
    have hkeep : ∀ j, j < k0 → kp j = true := fun j hj => by rw [HK.out]; show (!p d[j]!) = true; rw [hlow j hj]; rfl
    have hdrop : kp k0 = false := by rw [HK.out]; show (!p d[k0]!) = false; rw [hp0]; rfl
    have hne1 : ((k0 : Int) == -1) = false := beq_eq_false_iff_ne.2 (by omega)
    have hk00 : (0 : Int) ≤ (k0 : Int) := Int.natCast_nonneg _
    have hk01 : (k0 : Int) < d.size := by omega
    have HI := Lib.hid hidx
    have I0 := Lib.hid (KeptInv.start (d := d) hkeep hdrop)
    clear hidx hall hcall hH hp0 hlow hkeep hdrop
    go_enter Try.func59, Try.ntmps59
    go_wp2_with (go_at_call 85; refine HI.out.mono ?_; rintro e w2 ⟨rfl, hb2⟩)
    go_loopw [5, 6] (fun s5 s6 wr => ∃ (i j : Nat) (dk : Array Int), s5 = .int .i64 i ∧ s6 = .int .i64 j ∧ j ≤ d.size ∧ Holds (Value.int .i64) wr g 0 dk ∧ KeptInv kp d j i dk ∧ KeepX w.heap.size (fun k => k = g) w wr)
      (fun _ s6 _ => d.size - (intOf s6).toNat)
    case atStart => exact ⟨k0, k0 + 1, d, rfl, by go_num, by omega, holds_blk HH.out (hb2.block g hg), I0.out, KeepX.of_below hb2 _⟩
    case round =>
      clear hb2
      obtain ⟨i, j, dk, rfl, rfl, hjd, hHk, hI, hK⟩ := hrel
      have hij := hI.lt
      have hds := hI.size
      have hKs := hK.size
      by_cases hlt : j < d.size
      · have hj0 : (0 : Int) ≤ (j : Int) := Int.natCast_nonneg _
        have hj1 : (j : Int) < d.size := by omega
        have hi0 : (0 : Int) ≤ (i : Int) := Int.natCast_nonneg _
        have hi1 : (i : Int) < d.size := by omega
        have cj := (hHk j (by omega)).1
        rw [hI.high j (by omega), Nat.zero_add] at cj
        have ci := (hHk i (by omega)).1
        rw [Nat.zero_add] at ci
        have hc := HC.out j hlt wr hK
        obtain ⟨u, hu⟩ : ∃ u, d[j]! = u := ⟨_, rfl⟩
        obtain ⟨old, hold⟩ : ∃ old, dk[i]! = old := ⟨_, rfl⟩
        rw [hu] at cj hc
        rw [hold] at ci
        have HCC := Lib.hid hc
        have HU := Lib.hid hu
        have HHK := Lib.hid hHk
        have HII := Lib.hid hI
        clear hc hu hold hHk hI
        rcases hp : p u with _ | _
        · go_wp2_with (go_at_call 64; refine HCC.out.mono ?_; rw [hp]; rintro e w3 ⟨rfl, hb3⟩; have hH3 := holds_blk HHK.out (hb3.block g (by omega)); have fi := (hH3 i (by omega)).2; rw [Nat.zero_add] at fi; have ci3 := (hb3.cell (p := ⟨g, i, none⟩) (by simp; omega)).trans ci; have hg3 : g < w3.heap.size := Nat.lt_of_lt_of_le (by omega) hb3.size)
          have hH4 := holds_set i u hH3
          have hK4 := (hK.trans (KeepX.of_below (hb3.mono hKs) _)).setCell (p := ⟨g, i, none⟩) (fun _ => rfl) (.int .i64 u)
          have REL := Lib.hid (And.intro hH4 hK4)
          clear hH4 hK4 hH3
          go_roundw
          case rel =>
            refine ⟨i + 1, j + 1, dk.setIfInBounds i u, by go_num, by go_num, by omega, REL.out.1, ?_, REL.out.2⟩
            have := HII.out.keep hlt (by rw [HK.out]; show (!p d[j]!) = true; rw [HU.out, hp]; rfl)
            rwa [HU.out] at this
          case measure => simp [intOf]; omega
        · go_wp2_with (go_at_call 64; refine HCC.out.mono ?_; rw [hp]; rintro e w3 ⟨rfl, hb3⟩)
          go_roundw
          case rel =>
            exact ⟨i, j + 1, dk, rfl, by go_num, by omega, holds_blk HHK.out (hb3.block g (by omega)), HII.out.skip (by rw [HK.out]; show (!p d[j]!) = false; rw [HU.out, hp]; rfl), hK.trans (KeepX.of_below (hb3.mono hKs) _)⟩
          case measure => simp [intOf]; omega
      · obtain rfl : j = d.size := by omega
        have hltz : ¬ (d.size : Int) < (d.size : Int) := by omega
        have hi0 : (0 : Int) ≤ (i : Int) := Int.natCast_nonneg _
        have hi1 : (i : Int) < d.size := by omega
        have hcl : ∀ ty, (Builtin.clear_ #[25] ty #[.slice (some ⟨g, i, none⟩) (d.size - i) (cap - i)]).run Try.prog wr = .ok (.tuple #[]) (wr.setCells g i (List.replicate (d.size - i) (.int .i64 0))) :=
          fun ty => Lib.run_clear_slice wr _ _ ty _ Try.underlying25 (fun w => rfl) rfl rfl g i _ _ (by omega) (fun t ht => by have := (hHk (i + t) (by omega)).1; rw [Nat.zero_add] at this; rw [this]; rfl) (fun t ht => by have := (hHk (i + t) (by omega)).2; rw [Nat.zero_add] at this; exact this)
        have HHK := Lib.hid hHk
        have HII := Lib.hid hI
        clear hHk hI
        go_wp2_with fail
        go_ret
        have hI := HII.out
        refine ⟨by rw [hI.len]; rfl, fun t ht => ?_, keepX_setCells (X := fun k => k = g) (fun _ => rfl) _ _ hK⟩
        have ht' : t < (keptUpTo kp d d.size).length := by simpa using ht
        have hti : t < i := by rw [hI.len] at ht'; exact ht'
        have hlow := hI.low t hti
        refine ⟨?_, ?_⟩
        · rw [World.cell?_setCells_out g _ _ _ _ (fun _ _ => .inl (by simp; omega)), (HHK.out t (by omega)).1]
          rw [List.getElem?_eq_getElem ht'] at hlow
          simp only [Option.some.injEq] at hlow
          rw [← hlow]
          simp [ht']
        · rw [World.frozen?_setCells]
          exact (HHK.out t (by omega)).2

end Go.Proofs.Yteiaofgkmgllcaa
