/-
  Concat, Without, Join, Some, Through: their results lie in new memory, which can be written; LineMemory: the law's walk.
-/
import Derived.Test.YteiaofgkmgllcaaConcat
import Derived.Test.YteiaofgkmgllcaaWo
import Derived.Test.YteiaofgkmgllcaaJoin
import Derived.Test.YteiaofgkmgllcaaSome
import Derived.Test.YteiaofgkmgllcaaThru
import Derived.Test.YteiaofgkmgllcaaAlive
import Derived.Test.YteiaofgkmgllcaaCons
import Derived.Test.YteiaofgkmgllcaaKeptL
import Derived.Test.YteiaofgkmgllcaaSomL
import Derived.Test.YteiaofgkmgllcaaSame
set_option linter.unusedVariables false
set_option linter.unusedSimpArgs false
namespace Go.Proofs.Yteiaofgkmgllcaa
open Go.RowKit Go.Shelf Go.Maps

/-- The memory at A' is new since w, and can be written: m cells at least. -/
def NewMem (B : Nat) (w' : World) (A' : Option Addr) (m : Nat) : Prop := ∀ a, A' = some a → ∃ g t cs, a = ⟨g, 0, none⟩ ∧ B ≤ g ∧ Bk w' g t cs ∧ m ≤ cs.size
theorem own_newmem {w : World} {base e size : Nat} {A : Option Addr} {c n : Nat} {xs : List Value} (h : w.ownsRow base e size (.slice A n c) n xs) : NewMem base w A (n * size) := by
  rintro a rfl
  rcases h.2 with ⟨e1, _⟩ | ⟨g, cap, cur, e1, hb, hg, hn, _, hs, _⟩
  · cases e1
  · cases e1
    refine ⟨g, _, cur, rfl, hb, hg, ?_⟩
    rw [hs]
    exact Nat.mul_le_mul_right _ hn
theorem NewMem.below {B m C : Nat} {w w' : World} {A : Option Addr} (h : NewMem B w A m) (hb : Below C w w') (hC : w.heap.size ≤ C) : NewMem B w' A m := fun a e => by
  obtain ⟨g, t, cs, h1, h2, h3, h4⟩ := h a e
  exact ⟨g, t, cs, h1, h2, h3.below hb (Nat.lt_of_lt_of_le h3.lt hC), h4⟩
theorem NewMem.far {B m : Nat} {w : World} {A : Option Addr} (h : NewMem B w A m) {p : Addr} (hp : p.block < B) (u : Value) : NewMem B (w.setCell p u) A m := fun a e => by
  obtain ⟨g, t, cs, h1, h2, h3, h4⟩ := h a e
  exact ⟨g, t, cs, h1, h2, h3.far (by omega) u, h4⟩
theorem NewMem.lo {B B' m : Nat} {w : World} {A : Option Addr} (h : NewMem B w A m) (hB : B' ≤ B) : NewMem B' w A m := fun a e => by
  obtain ⟨g, t, cs, h1, h2, h3⟩ := h a e
  exact ⟨g, t, cs, h1, by omega, h3⟩
theorem newmem_none (B m : Nat) (w : World) : NewMem B w none m := fun a e => by cases e
theorem bk_newmem {w : World} {B g t : Nat} {l : List Int} {m : Nat} (h : Bk w g t (av l)) (hB : B ≤ g) (hm : m ≤ l.length) : NewMem B w (some ⟨g, 0, none⟩) m := fun a e => by
  cases e
  exact ⟨g, t, _, rfl, hB, h, by simpa [av] using hm⟩

set_option maxRecDepth 100000 in
set_option maxHeartbeats 4000000 in
theorem concat_bk (bs cs : List Ln.Bd) (A1 A2 : Option Addr) (c1 c2 b : Nat) (w : World) (hb : Bk w b 22 #[.slice A1 bs.length c1, .slice A2 cs.length c2])
    (h1 : Rd w w.heap.size 4 A1 bs.length (bcells bs)) (h2 : Rd w w.heap.size 4 A2 cs.length (bcells cs)) (hl : bs.length + cs.length ≤ 1000000) :
    Calls Try.prog 51 #[.slice (some ⟨b, 0, none⟩) 2 2] w fun e w' => ∃ A' c', e = .returned (.slice A' (bs ++ cs).length c') ∧ Rd w' w'.heap.size 4 A' (bs ++ cs).length (bcells (bs ++ cs)) ∧ NewMem w.heap.size w' A' ((bs ++ cs).length * 4) ∧ Below w.heap.size w w' := by
  obtain ⟨i0, hi0, hz0, hz1, hz2⟩ := info_parts info69'
  have d0 := hb.cell 0
  have d1 := hb.cell 1
  simp only [List.getElem?_toArray, List.getElem?_cons_zero, List.getElem?_cons_succ] at d0 d1
  have hbl := hb.lt
  have hbn : (0 : Int) ≤ (bs.length : Int) := Int.natCast_nonneg _
  have hcn : (0 : Int) ≤ (cs.length : Int) := Int.natCast_nonneg _
  go_enter Try.func51, Try.ntmps51
  go_wp2_with fail
  go_loopw [3, 11] (fun s i wr => wr = w ∧ ((s = .int .i64 0 ∧ i = .int .i64 0) ∨ (s = .int .i64 bs.length ∧ i = .int .i64 1) ∨ (s = .int .i64 ((bs.length : Int) + cs.length) ∧ i = .int .i64 2)))
    (fun _ i _ => 2 - (intOf i).toNat)
  case atStart => exact ⟨rfl, .inl ⟨rfl, rfl⟩⟩
  case round =>
    obtain ⟨hw, hrel⟩ := hrel
    have hw := hw.symm
    subst hw
    rcases hrel with ⟨rfl, rfl⟩ | ⟨rfl, rfl⟩ | ⟨rfl, rfl⟩
    · go_wp2_with fail
      go_roundw
      case rel => exact ⟨trivial, .inr (.inl ⟨by go_num, by go_num⟩)⟩
      case measure => simp [intOf]
    · go_wp2_with fail
      go_roundw
      case rel => exact ⟨trivial, .inr (.inr ⟨by go_num, by go_num⟩)⟩
      case measure => simp [intOf]
    · have hsum : ((bs.length : Int) + cs.length) = ((bs.length + cs.length : Nat) : Int) := by omega
      rw [hsum]
      clear hsum
      go_wp2_with (first | (go_at_call 77; refine (grow_any (bs.length + cs.length) (by omega) _).mono ?_; rintro e w1 ⟨v, rfl, hv, hb1⟩))
      clear d0 d1
      have kB1 := hb.below hb1 hbl
      have hb0 := hb1.size
      have hR1 := h1.below hb1 (Nat.le_refl _)
      have hR2 := h2.below hb1 (Nat.le_refl _)
      go_wp2_with fail
      go_loopw [6, 27] (fun V i W => Below w.heap.size w W ∧ ((i = .int .i64 0 ∧ W.ownsRow w.heap.size 50 4 V 0 []) ∨ (i = .int .i64 1 ∧ W.ownsRow w.heap.size 50 4 V (0 + bs.length) ([] ++ bcells bs)) ∨ (i = .int .i64 2 ∧ W.ownsRow w.heap.size 50 4 V (0 + bs.length + cs.length) ([] ++ bcells bs ++ bcells cs))))
        (fun _ i _ => 2 - (intOf i).toNat)
      case atStart => exact ⟨hb1, .inl ⟨rfl, hv⟩⟩
      case round =>
        clear hv hb1 kB1 hb0 hR1 hR2
        obtain ⟨hB, hrel⟩ := hrel
        have kB := hb.below hB hbl
        have d0 := kB.cell 0
        have d1 := kB.cell 1
        have hBs := hB.size
        simp only [List.getElem?_toArray, List.getElem?_cons_zero, List.getElem?_cons_succ] at d0 d1
        have hR1 := h1.below hB (Nat.le_refl _)
        have hR2 := h2.below hB (Nat.le_refl _)
        rcases hrel with ⟨rfl, hv⟩ | ⟨rfl, hv⟩ | ⟨rfl, hv⟩
        · go_wp2_with (at_builtin; go_loud (refine wpList_append_rd rfl _ _ 22 rfl w.heap.size 50 i0 _ 4 32 Try.underlying22 hi0 hz0 hz1 hz2 rfl (by omega) u6 _ _ rfl hv A1 bs.length c1 _ _ rfl hR1 (bcells_one _) (by unfold maxLen; omega) (by omega) hBs ?_); intro v' W2 hv2 hg2 hat2)
          have hB2 := hB.grown hg2 hBs (fun j e => (hv.lt j e).1)
          have REL := Lib.hid (And.intro hB2 hv2)
          clear hv2 hg2 hB2
          go_roundw
          case rel => exact ⟨REL.out.1, .inr (.inl ⟨by go_num, REL.out.2⟩)⟩
          case measure => simp [intOf]
        · go_wp2_with (at_builtin; go_loud (refine wpList_append_rd rfl _ _ 22 rfl w.heap.size 50 i0 _ 4 32 Try.underlying22 hi0 hz0 hz1 hz2 rfl (by omega) u6 _ _ rfl hv A2 cs.length c2 _ _ rfl hR2 (bcells_one _) (by unfold maxLen; omega) (by omega) hBs ?_); intro v' W2 hv2 hg2 hat2)
          have hB2 := hB.grown hg2 hBs (fun j e => (hv.lt j e).1)
          have REL := Lib.hid (And.intro hB2 hv2)
          clear hv2 hg2 hB2
          go_roundw
          case rel => exact ⟨REL.out.1, .inr (.inr ⟨by go_num, REL.out.2⟩)⟩
          case measure => simp [intOf]
        · rw [List.nil_append, ← bcells_append, Nat.zero_add, ← List.length_append] at hv
          obtain ⟨A', c', hv6, hrd, _⟩ := ownB_rd hv (bcells_length _)
          subst hv6
          have hnew := own_newmem hv
          go_wp2_with fail
          go_ret
          exact ⟨A', c', rfl, hrd, hnew, hB⟩

section
variable (N : Int) (A : Option Addr) (c : Nat) (bs : List Ln.Bd) (A2 : Option Addr) (c2 : Nat) (l : List Int) (w : World)

set_option maxRecDepth 100000 in
set_option maxHeartbeats 4000000 in
theorem without_bk (hR : Rd w w.heap.size 4 A bs.length (bcells bs)) (hc : Ln.Lv bs) (hL : Rd w w.heap.size 1 A2 l.length (ints l)) (hll : l.length ≤ 1000000) (hlr : ∀ x ∈ l, (Lit.int .i64 x).wf = true) :
    Calls Try.prog 19 #[.agg #[.int .i64 N, .slice A bs.length c], .slice A2 l.length c2] w fun e w' => ∃ A' c', e = .returned (.tuple #[.agg #[.int .i64 (Ln.woF N bs l).1.1, .slice A' (Ln.woF N bs l).1.2.length c'], .int .i64 (Ln.woF N bs l).2]) ∧
      Rd w' w'.heap.size 4 A' (Ln.woF N bs l).1.2.length (bcells (Ln.woF N bs l).1.2) ∧ NewMem w.heap.size w' A' ((Ln.woF N bs l).1.2.length * 4) ∧ Below w.heap.size w w' := by
  obtain ⟨i0, hi0, hz0, hz1, hz2⟩ := info_parts info69'
  have hmm := @run_makeMap Try.prog
  obtain ⟨r, hr⟩ : ∃ r, Ln.woF N bs l = r := ⟨_, rfl⟩
  rw [hr]
  rw [Ln.woF] at hr
  have hB0 : Below w.heap.size w ((w.alloc (.cells #[.int .i64 N, .slice A bs.length c] 24)).alloc (.cells #[.int .i64 0, .slice none 0 0] 24)) := ((Below.refl _ _).alloc (Nat.le_refl _) _).alloc (by simp) _
  have hR1 := (hR.below hB0 (Nat.le_refl _)).more hB0.size
  have kS := (Bk.new w 24 #[.int .i64 N, .slice A bs.length c]).alloc (.cells #[.int .i64 0, .slice none 0 0] 24)
  have kT := Bk.new (w.alloc (.cells #[.int .i64 N, .slice A bs.length c] 24)) 24 #[.int .i64 0, .slice none 0 0]
  rw [World.size_alloc] at kT
  by_cases hs : Ln.check N bs = 0
  · rw [if_pos hs] at hr
    have hok := (Ln.ok_of_check hs).1
    have hlen := hok.len
    have HS := Lib.hid hs
    have HRR := Lib.hid hr
    have HLR := Lib.hid hlr
    clear hs hr hlr
    go_enter Try.func19, Try.ntmps19
    go_wp2_with (go_at_call 33; refine (check_any N A c bs _ hR1 hc.len).mono ?_; rw [HS.out]; rintro e w1 ⟨rfl, hb1⟩)
    have hB1 := hB0.trans (hb1.mono hB0.size)
    have kS1 := (kS.below hb1 (by simp; omega)).alloc (.map #[] 0)
    have kT1 := (kT.below hb1 (by simp)).alloc (.map #[] 0)
    have hM1 : IsSet (w1.alloc (.map #[] 0)) w1.heap.size 0 [] := World.ownsMap_made w1 Try.prog 3 boElem
    have hB2 := hB1.alloc hB1.size (.map #[] 0)
    have hz1' : w.heap.size + 2 ≤ w1.heap.size := by have := hb1.size; simp at this; omega
    obtain ⟨mb, hmb⟩ : ∃ mb, w1.heap.size = mb := ⟨_, rfl⟩
    rw [hmb] at hM1 hz1' ⊢
    clear hmb hb1 hB1
    go_loopw [22] (fun i wr => ∃ k : Nat, k ≤ l.length ∧ i = .int .i64 k ∧ IsSet wr mb k (l.take k) ∧ Bk wr w.heap.size 24 #[.int .i64 N, .slice A bs.length c] ∧ Bk wr (w.heap.size + 1) 24 #[.int .i64 0, .slice none 0 0] ∧ Below w.heap.size w wr)
      (fun i _ => l.length - (intOf i).toNat)
    case atStart => exact ⟨0, Nat.zero_le _, rfl, hM1, kS1, kT1, hB2⟩
    case round =>
      clear hM1 kS1 kT1 hB2 kS kT hB0 hR1
      obtain ⟨k, hk, rfl, hM, kS, kT, hB⟩ := hrel
      have hBs := hB.size
      have hMl := World.ownsMap.lt hM
      by_cases hlt : k < l.length
      · obtain ⟨bl, ol, rfl, hbl, el⟩ := Rd.one (hL.below hB (Nat.le_refl _)) hlt
        have htk : l.take (k + 1) = l.take k ++ [l[k]] := List.take_succ_eq_append_getElem hlt
        have hwf := HLR.out _ (List.getElem_mem hlt)
        obtain ⟨x, hx⟩ : ∃ x, l[k] = x := ⟨_, rfl⟩
        rw [hx] at el htk hwf
        have HTK := Lib.hid htk
        clear hx htk
        have hkey := keyOf_int_mk Try.underlying3 hwf
        go_wp2_with (at_mapUpdate; refine wpList_mapUpdate_own _ rfl _ _ _ 92 rfl 3 _ keyedI Try.underlying92 boElem mb k _ rfl hM (by unfold maxLen; omega) (.int .i64 x) (.bool true) (.int .i64 x) rfl rfl hkey (.lit (.bool true)) [] rfl ?_; intro w2 hM2 hg2)
        have kS2 := kS.grown hg2 (by simp; omega)
        have kT2 := kT.grown hg2 (by simp; omega)
        have hB2 := hB.grown hg2 hBs (fun j e => by cases e; omega)
        rw [← Ln.setD_snoc, ← HTK.out] at hM2
        have REL := Lib.hid (And.intro hM2 (And.intro kS2 (And.intro kT2 hB2)))
        clear hM2 kS2 kT2 hB2 hg2
        go_roundw
        case rel => exact ⟨k + 1, by omega, by go_num, REL.out⟩
        case measure => simp [intOf]; omega
      · obtain rfl : k = l.length := by omega
        rw [List.take_length] at hM
        have c0 := kS.cell 0
        have c1 := kS.cell 1
        have hSl := kS.lt
        simp only [List.getElem?_toArray, List.getElem?_cons_zero, List.getElem?_cons_succ] at c0 c1
        go_wp2_with fail
        have kL := Bk.new wr 24 #[.int .i64 N, .slice none 0 0]
        have hM2 := hM.alloc (.cells #[.int .i64 N, .slice none 0 0] 24)
        have kT2 := kT.alloc (.cells #[.int .i64 N, .slice none 0 0] 24)
        have hB2 := hB.alloc hBs (.cells #[.int .i64 N, .slice none 0 0] 24)
        obtain ⟨lb, hlb⟩ : ∃ lb, wr.heap.size = lb := ⟨_, rfl⟩
        have hTl := kT.lt
        rw [hlb] at kL hMl hBs hTl ⊢
        clear hM kS kT hB c0 c1 hSl hlb
        go_loopw [35] (fun i W => ∃ k : Nat, k ≤ bs.length ∧ i = .int .i64 k ∧ (∃ V, Bk W lb 24 #[.int .i64 N, V] ∧ W.ownsRow (lb + 1) 50 4 V (Ln.woL l (bs.take k)).length (bcells (Ln.woL l (bs.take k)))) ∧
            IsSet W mb l.length l ∧ Bk W (w.heap.size + 1) 24 #[.int .i64 0, .slice none 0 0] ∧ Below w.heap.size w W)
          (fun i _ => bs.length - (intOf i).toNat)
        case atStart => exact ⟨0, Nat.zero_le _, rfl, ⟨_, kL, ⟨rfl, .inl ⟨rfl, rfl⟩⟩⟩, hM2, kT2, hB2⟩
        case round =>
          clear kL hM2 kT2 hB2
          obtain ⟨k, hk, rfl, ⟨V, kL, hO⟩, hM, kT, hB⟩ := hrel
          have hBs2 := hB.size
          have hLl := kL.lt
          have hTl2 := kT.lt
          have hMl2 := World.ownsMap.lt hM
          have c0 := kL.cell 0
          have c1 := kL.cell 1
          have f1 := kL.frozen 1
          simp only [List.getElem?_toArray, List.getElem?_cons_zero, List.getElem?_cons_succ] at c0 c1
          by_cases hlt : k < bs.length
          · obtain ⟨b, off, rfl, hb, e0, e1, e2, e3⟩ := (hR.below hB (Nat.le_refl _)).bound hlt
            have htk : bs.take (k + 1) = bs.take k ++ [bs[k]] := List.take_succ_eq_append_getElem hlt
            have hsn := Ln.woL_snoc l (bs.take k) bs[k]
            rw [← htk] at hsn
            have hwl := Ln.woL_length l (bs.take k)
            rw [List.length_take] at hwl
            have hrec := rec_of_check HS.out hlt
            rw [Ln.bd_eq hlt] at hrec
            obtain ⟨⟨bf, bt, bm, br, bg⟩, hbd⟩ : ∃ x, bs[k] = x := ⟨_, rfl⟩
            rw [hbd] at e0 e1 e2 e3 hsn hrec
            obtain ⟨K0, hK0⟩ : ∃ K0, Ln.woL l (bs.take k) = K0 := ⟨_, rfl⟩
            rw [hK0] at hO hsn hwl
            have hlk := (hM.alloc (.cells #[.int .i64 bf, .int .i64 bt, .int .i64 bm, .int .i64 br] 50)).look (wf_small hrec.1 hrec.2)
            have HSN := Lib.hid hsn
            clear htk hsn hbd hK0 hrec
            rcases hin : decide (br ∈ l) with _ | _
            · rw [hin] at hlk
              have hO2 := (hO.alloc (.cells #[.int .i64 bf, .int .i64 bt, .int .i64 bm, .int .i64 br] 50)).alloc (.cells #[.int .i64 bf, .int .i64 bt, .int .i64 bm, .int .i64 br] 50)
              have hnw := heap_alloc_new (wr.alloc (.cells #[.int .i64 bf, .int .i64 bt, .int .i64 bm, .int .i64 br] 50)) (.cells #[.int .i64 bf, .int .i64 bt, .int .i64 bm, .int .i64 br] 50)
              rw [World.size_alloc] at hnw
              go_wp2_with (at_builtin; go_loud (refine wpList_append_lies _ rfl _ _ 22 rfl (lb + 1) 50 i0 _ 4 32 Try.underlying22 hi0 hz0 hz1 hz2 rfl (by omega) V _ _ rfl hO2 ⟨wr.heap.size + 1, 0, none⟩ 1 1 [.int .i64 bf, .int .i64 bt, .int .i64 bm, .int .i64 br] rfl rfl (World.news_of_block (cs := #[.int .i64 bf, .int .i64 bt, .int .i64 bm, .int .i64 br]) (t := 50) (fr := (0, 0)) hnw) (by simp [Value.oneCell']) (by omega) (by unfold maxLen; omega) (by omega) (by simp; omega) (wr.heap.size + 2) (by simp) ?_); intro gg cap w2 hown hgrow hat hlt2; have kL2 := (((kL.alloc (.cells #[.int .i64 bf, .int .i64 bt, .int .i64 bm, .int .i64 br] 50)).alloc (.cells #[.int .i64 bf, .int .i64 bt, .int .i64 bm, .int .i64 br] 50)).grown hgrow (off_neN hO2 (by omega))); have d0 := kL2.cell 1; have d1 := kL2.frozen 1; have hLl2 := kL2.lt)
              have hnin : ¬ br ∈ l := by simpa using hin
              have hMl3 := World.ownsMap.lt hM
              have hM2 := ((hM.alloc (.cells #[.int .i64 bf, .int .i64 bt, .int .i64 bm, .int .i64 br] 50)).alloc (.cells #[.int .i64 bf, .int .i64 bt, .int .i64 bm, .int .i64 br] 50)).grown hgrow (off_neN hO2 (by omega))
              have kT2 := ((kT.alloc (.cells #[.int .i64 bf, .int .i64 bt, .int .i64 bm, .int .i64 br] 50)).alloc (.cells #[.int .i64 bf, .int .i64 bt, .int .i64 bm, .int .i64 br] 50)).grown hgrow (off_neN hO2 (by omega))
              have hB2 := ((hB.alloc hBs2 (.cells #[.int .i64 bf, .int .i64 bt, .int .i64 bm, .int .i64 br] 50)).alloc (by simp; omega) (.cells #[.int .i64 bf, .int .i64 bt, .int .i64 bm, .int .i64 br] 50)).grown hgrow (by simp; omega) (fun j e => by have := (hO2.lt j e).1; omega)
              have hfin := And.intro (kL2.set 1 (.slice (some ⟨gg, 0, none⟩) (K0.length + 1) cap)) (And.intro (hown.kept (grown_setCell w2 ⟨lb, 1, none⟩ (.slice (some ⟨gg, 0, none⟩) (K0.length + 1) cap)) (own_offN hown (Nat.lt_succ_self _))) (And.intro (hM2.far (p := ⟨lb, 1, none⟩) (by simp; omega) (.slice (some ⟨gg, 0, none⟩) (K0.length + 1) cap)) (And.intro (kT2.far (p := ⟨lb, 1, none⟩) (by simp; omega) (.slice (some ⟨gg, 0, none⟩) (K0.length + 1) cap)) (hB2.setCell (p := ⟨lb, 1, none⟩) (by simp; omega) (.slice (some ⟨gg, 0, none⟩) (K0.length + 1) cap)))))
              have REL := Lib.hid hfin
              clear hfin hM2 kT2 hB2 hgrow hown kL2 d0 d1
              go_roundw
              case rel =>
                have hsn := HSN.out
                rw [if_neg hnin] at hsn
                refine ⟨k + 1, by omega, by go_num, ⟨_, REL.out.1, ?_⟩, REL.out.2.2⟩
                rw [hsn, List.length_append, bcells_append]
                exact REL.out.2.1
              case measure => simp [intOf]; omega
            · rw [hin] at hlk
              have hyin : br ∈ l := by simpa using hin
              go_wp2_with fail
              go_roundw
              case rel =>
                have hsn := HSN.out
                rw [if_pos hyin] at hsn
                exact ⟨k + 1, by omega, by go_num, ⟨V, kL.alloc _, by rw [hsn]; exact hO.alloc _⟩, hM.alloc _, kT.alloc _, hB.alloc hBs2 _⟩
              case measure => simp [intOf]; omega
          · obtain rfl : k = bs.length := by omega
            rw [List.take_length] at hO
            obtain ⟨A', c', hV, hrd, hnew⟩ := ownB_rd hO (bcells_length _)
            subst hV
            have hfz := own_newmem hO
            have d0 := kT.cell 0
            have d1 := kT.cell 1
            have g0 := kT.frozen 0
            have g1 := kT.frozen 1
            simp only [List.getElem?_toArray, List.getElem?_cons_zero, List.getElem?_cons_succ] at d0 d1
            have k5 := (kT.set 0 (.int .i64 N)).set 1 (.slice A' (Ln.woL l bs).length c')
            have hB5 := (hB.setCell (p := ⟨w.heap.size + 1, 0, none⟩) (by simp) (.int .i64 N)).setCell (p := ⟨w.heap.size + 1, 1, none⟩) (by simp) (.slice A' (Ln.woL l bs).length c')
            have hrd5 : Rd ((wr.setCell ⟨w.heap.size + 1, 0, none⟩ (.int .i64 N)).setCell ⟨w.heap.size + 1, 1, none⟩ (.slice A' (Ln.woL l bs).length c')) wr.heap.size 4 A' (Ln.woL l bs).length (bcells (Ln.woL l bs)) := by
              refine ⟨hrd.1, fun hn => ?_⟩
              obtain ⟨b, off, e, hb, hc'⟩ := hrd.2 hn
              have hbn := hnew _ e
              simp only at hbn
              refine ⟨b, off, e, hb, fun j hj => ?_⟩
              rw [World.cell?_of_block (Below.heap_setCell _ _ _ _ (by simp; omega)), World.cell?_of_block (Below.heap_setCell _ _ _ _ (by simp; omega))]
              exact hc' j hj
            have K5 := Lib.hid (And.intro k5 (And.intro hrd5 hB5))
            clear k5 hrd5 hB5
            go_wp2_with fail
            have hr := HRR.out
            subst hr
            refine bodyPost_ret (v := .tuple #[.agg #[.int .i64 N, .slice A' (Ln.woL l bs).length c'], .int .i64 0]) (results_cell_row_tmp rfl _ _ (w.heap.size + 1) 24 _ (0, 0) _ _ rfl rfl K5.out.1 Try.underlying24 rfl (by kernel_rfl)) rfl ⟨A', c', rfl, K5.out.2.1.more (by rw [size_setCell, size_setCell]; exact Nat.le_refl _), ((hfz.far (p := ⟨w.heap.size + 1, 0, none⟩) (by simp; omega) _).far (p := ⟨w.heap.size + 1, 1, none⟩) (by simp; omega) _).lo (by omega), K5.out.2.2⟩
  · rw [if_neg hs] at hr
    have hne : (Ln.check N bs != 0) = true := by simp [hs]
    have HRR := Lib.hid hr
    clear hs hr
    go_enter Try.func19, Try.ntmps19
    go_wp2_with (go_at_call 33; refine (check_any N A c bs _ hR1 hc.len).mono ?_; rintro e w1 ⟨rfl, hb1⟩; have k1 := kT.below hb1 (by simp); have c0 := k1.cell 0; have c1 := k1.cell 1; have f0 := k1.frozen 0; have f1 := k1.frozen 1)
    have k5 := (k1.set 0 (.int .i64 0)).set 1 (.slice none 0 0)
    have hB5 := ((hB0.trans (hb1.mono hB0.size)).setCell (p := ⟨w.heap.size + 1, 0, none⟩) (by simp) (.int .i64 0)).setCell (p := ⟨w.heap.size + 1, 1, none⟩) (by simp) (.slice none 0 0)
    have hr := HRR.out
    subst hr
    refine bodyPost_ret (v := .tuple #[.agg #[.int .i64 0, .slice none 0 0], .int .i64 (Ln.check N bs)]) (results_cell_row_tmp rfl _ _ (w.heap.size + 1) 24 _ (0, 0) _ _ rfl rfl k5 Try.underlying24 rfl (by kernel_rfl)) rfl ⟨none, 0, rfl, Rd.nil _ _ _ _, fun a e => (by cases e), hB5⟩
end

set_option maxRecDepth 100000 in
set_option maxHeartbeats 4000000 in
theorem join_bk (N : Int) (A : Option Addr) (c : Nat) (bs : List Ln.Bd) (M : Int) (A2 : Option Addr) (c2 : Nat) (cs : List Ln.Bd) (w : World)
    (hR : Rd w w.heap.size 4 A bs.length (bcells bs)) (hc : bs.length ≤ 100000) (hR2 : Rd w w.heap.size 4 A2 cs.length (bcells cs)) (hc2 : cs.length ≤ 100000) :
    Calls Try.prog 20 #[.agg #[.int .i64 N, .slice A bs.length c], .agg #[.int .i64 M, .slice A2 cs.length c2]] w fun e w' => ∃ A' c', e = .returned (.tuple #[.agg #[.int .i64 (Ln.joinF N bs M cs).1.1, .slice A' (Ln.joinF N bs M cs).1.2.length c'], .int .i64 (Ln.joinF N bs M cs).2]) ∧
      Rd w' w'.heap.size 4 A' (Ln.joinF N bs M cs).1.2.length (bcells (Ln.joinF N bs M cs).1.2) ∧ NewMem w.heap.size w' A' ((Ln.joinF N bs M cs).1.2.length * 4) ∧ Below w.heap.size w w' := by
  have k1 := ((Bk.new w 24 #[.int .i64 N, .slice A bs.length c]).alloc (.cells #[.int .i64 M, .slice A2 cs.length c2] 24)).alloc (.cells #[.int .i64 0, .slice none 0 0] 24)
  have k2 := (Bk.new (w.alloc (.cells #[.int .i64 N, .slice A bs.length c] 24)) 24 #[.int .i64 M, .slice A2 cs.length c2]).alloc (.cells #[.int .i64 0, .slice none 0 0] 24)
  have k3 := Bk.new ((w.alloc (.cells #[.int .i64 N, .slice A bs.length c] 24)).alloc (.cells #[.int .i64 M, .slice A2 cs.length c2] 24)) 24 #[.int .i64 0, .slice none 0 0]
  have hB0 : Below w.heap.size w (((w.alloc (.cells #[.int .i64 N, .slice A bs.length c] 24)).alloc (.cells #[.int .i64 M, .slice A2 cs.length c2] 24)).alloc (.cells #[.int .i64 0, .slice none 0 0] 24)) := (((Below.refl _ _).alloc (Nat.le_refl _) _).alloc (by simp) _).alloc (by simp; omega) _
  simp only [World.size_alloc] at k2 k3
  have hR1 := (hR.below hB0 (Nat.le_refl _)).more hB0.size
  have hQ1 := (hR2.below hB0 (Nat.le_refl _)).more hB0.size
  by_cases h1 : Ln.check N bs = 0
  case neg =>
    obtain ⟨ck, hck⟩ : ∃ ck, Ln.check N bs = ck := ⟨_, rfl⟩
    rw [show Ln.joinF N bs M cs = ((0, []), ck) from by rw [Ln.joinF, if_neg h1, hck]]
    rw [hck] at h1
    have H1 := Lib.hid h1
    go_enter Try.func20, Try.ntmps20
    go_wp2_with fail
    refine (check_any N A c bs _ hR1 (by omega)).mono ?_
    rw [hck]
    clear hck
    rintro e w1 ⟨rfl, hb1⟩
    have kz := k3.below hb1 (by simp)
    have c0 := kz.cell 0
    have c1 := kz.cell 1
    have f0 := kz.frozen 0
    have f1 := kz.frozen 1
    simp only [List.getElem?_toArray, List.getElem?_cons_zero, List.getElem?_cons_succ] at c0 c1
    have k5 := (kz.set 0 (.int .i64 0)).set 1 (.slice none 0 0)
    have hB5 := ((hB0.trans (hb1.mono hB0.size)).setCell (p := ⟨w.heap.size + 1 + 1, 0, none⟩) (by simp; omega) (.int .i64 0)).setCell (p := ⟨w.heap.size + 1 + 1, 1, none⟩) (by simp; omega) (.slice none 0 0)
    have K5 := Lib.hid k5
    have HB5 := Lib.hid hB5
    clear k5 hB5 H1
    go_wp2_with fail
    exact bodyPost_ret (v := .tuple #[.agg #[.int .i64 0, .slice none 0 0], .int .i64 ck]) (results_cell_row_tmp rfl _ _ (w.heap.size + 1 + 1) 24 _ (0, 0) _ _ rfl rfl K5.out Try.underlying24 rfl (by kernel_rfl)) rfl ⟨none, 0, rfl, Rd.nil _ _ _ _, (newmem_none _ _ _), HB5.out⟩
  case pos =>
    have H1 := Lib.hid h1
    by_cases h2 : Ln.check M cs = 0
    case neg =>
      obtain ⟨ck, hck⟩ : ∃ ck, Ln.check M cs = ck := ⟨_, rfl⟩
      rw [show Ln.joinF N bs M cs = ((0, []), ck) from by rw [Ln.joinF, if_pos h1, if_neg h2, hck]]
      rw [hck] at h2
      have H2 := Lib.hid h2
      go_enter Try.func20, Try.ntmps20
      go_wp2_with fail
      refine (check_any N A c bs _ hR1 (by omega)).mono ?_
      rw [h1]
      clear h1
      rintro e w1 ⟨rfl, hb1⟩
      have q2 := k2.below hb1 (by simp)
      have hQ2 := (hQ1.below hb1 (Nat.le_refl _)).more hb1.size
      have m0 := q2.cell 0
      have m1 := q2.cell 1
      simp only [List.getElem?_toArray, List.getElem?_cons_zero, List.getElem?_cons_succ] at m0 m1
      go_wp2_with fail
      refine (check_any M A2 c2 cs _ hQ2 (by omega)).mono ?_
      rw [hck]
      clear hck m0 m1
      rintro e w2 ⟨rfl, hb2⟩
      have hB1 := hB0.trans (hb1.mono hB0.size)
      have kz := (k3.below hb1 (by simp)).below hb2 (Nat.lt_of_lt_of_le (by simp) hb1.size)
      have c0 := kz.cell 0
      have c1 := kz.cell 1
      have f0 := kz.frozen 0
      have f1 := kz.frozen 1
      simp only [List.getElem?_toArray, List.getElem?_cons_zero, List.getElem?_cons_succ] at c0 c1
      have k5 := (kz.set 0 (.int .i64 0)).set 1 (.slice none 0 0)
      have hB5 := ((hB1.trans (hb2.mono hB1.size)).setCell (p := ⟨w.heap.size + 1 + 1, 0, none⟩) (by simp; omega) (.int .i64 0)).setCell (p := ⟨w.heap.size + 1 + 1, 1, none⟩) (by simp; omega) (.slice none 0 0)
      have K5 := Lib.hid k5
      have HB5 := Lib.hid hB5
      clear k5 hB5 H1 H2
      go_wp2_with fail
      exact bodyPost_ret (v := .tuple #[.agg #[.int .i64 0, .slice none 0 0], .int .i64 ck]) (results_cell_row_tmp rfl _ _ (w.heap.size + 1 + 1) 24 _ (0, 0) _ _ rfl rfl K5.out Try.underlying24 rfl (by kernel_rfl)) rfl ⟨none, 0, rfl, Rd.nil _ _ _ _, (newmem_none _ _ _), HB5.out⟩
    case pos =>
      have H2 := Lib.hid h2
      by_cases h3 : N = M
      case neg =>
        rw [show Ln.joinF N bs M cs = ((0, []), 1) from by rw [Ln.joinF, if_pos h1, if_pos h2, if_neg h3]]
        have H3 := Lib.hid h3
        go_enter Try.func20, Try.ntmps20
        go_wp2_with fail
        refine (check_any N A c bs _ hR1 (by omega)).mono ?_
        rw [h1]
        clear h1
        rintro e w1 ⟨rfl, hb1⟩
        have q2 := k2.below hb1 (by simp)
        have hQ2 := (hQ1.below hb1 (Nat.le_refl _)).more hb1.size
        have m0 := q2.cell 0
        have m1 := q2.cell 1
        simp only [List.getElem?_toArray, List.getElem?_cons_zero, List.getElem?_cons_succ] at m0 m1
        go_wp2_with fail
        refine (check_any M A2 c2 cs _ hQ2 (by omega)).mono ?_
        rw [h2]
        clear h2 m0 m1
        rintro e w2 ⟨rfl, hb2⟩
        have hB1 := hB0.trans (hb1.mono hB0.size)
        have q1 := (k1.below hb1 (by simp; omega)).below hb2 (Nat.lt_of_lt_of_le (by simp; omega) hb1.size)
        have q2 := q2.below hb2 q2.lt
        have kz := (k3.below hb1 (by simp)).below hb2 (Nat.lt_of_lt_of_le (by simp) hb1.size)
        have n0 := q1.cell 0
        have m0 := q2.cell 0
        have c0 := kz.cell 0
        have c1 := kz.cell 1
        have f0 := kz.frozen 0
        have f1 := kz.frozen 1
        simp only [List.getElem?_toArray, List.getElem?_cons_zero, List.getElem?_cons_succ] at c0 c1 m0 n0
        have k5 := (kz.set 0 (.int .i64 0)).set 1 (.slice none 0 0)
        have hB5 := ((hB1.trans (hb2.mono hB1.size)).setCell (p := ⟨w.heap.size + 1 + 1, 0, none⟩) (by simp; omega) (.int .i64 0)).setCell (p := ⟨w.heap.size + 1 + 1, 1, none⟩) (by simp; omega) (.slice none 0 0)
        have K5 := Lib.hid k5
        have HB5 := Lib.hid hB5
        clear k5 hB5 H1 H2 H3
        go_wp2_with fail
        exact bodyPost_ret (v := .tuple #[.agg #[.int .i64 0, .slice none 0 0], .int .i64 1]) (results_cell_row_tmp rfl _ _ (w.heap.size + 1 + 1) 24 _ (0, 0) _ _ rfl rfl K5.out Try.underlying24 rfl (by kernel_rfl)) rfl ⟨none, 0, rfl, Rd.nil _ _ _ _, (newmem_none _ _ _), HB5.out⟩
      case pos =>
        subst h3
        have hck := Ln.ok_of_check h1
        by_cases h4 : bs.length + cs.length ≤ 2000
        case neg =>
          rw [show Ln.joinF N bs N cs = ((0, []), 2) from by rw [Ln.joinF, if_pos h1, if_pos h2, if_pos rfl, if_neg h4]]
          have hbn : (0 : Int) ≤ (bs.length : Int) := Int.natCast_nonneg _
          have hcn : (0 : Int) ≤ (cs.length : Int) := Int.natCast_nonneg _
          have hbl : (bs.length : Int) ≤ 100000 := by omega
          have hcl : (cs.length : Int) ≤ 100000 := by omega
          go_enter Try.func20, Try.ntmps20
          go_wp2_with fail
          refine (check_any N A c bs _ hR1 (by omega)).mono ?_
          rw [h1]
          clear h1
          rintro e w1 ⟨rfl, hb1⟩
          have q2 := k2.below hb1 (by simp)
          have hQ2 := (hQ1.below hb1 (Nat.le_refl _)).more hb1.size
          have m0 := q2.cell 0
          have m1 := q2.cell 1
          simp only [List.getElem?_toArray, List.getElem?_cons_zero, List.getElem?_cons_succ] at m0 m1
          go_wp2_with fail
          refine (check_any N A2 c2 cs _ hQ2 (by omega)).mono ?_
          rw [h2]
          clear h2 m0 m1
          rintro e w2 ⟨rfl, hb2⟩
          have hB1 := hB0.trans (hb1.mono hB0.size)
          have hB2 := hB1.trans (hb2.mono hB1.size)
          have q1 := (k1.below hb1 (by simp; omega)).below hb2 (Nat.lt_of_lt_of_le (by simp; omega) hb1.size)
          have q2 := q2.below hb2 q2.lt
          have kz := (k3.below hb1 (by simp)).below hb2 (Nat.lt_of_lt_of_le (by simp) hb1.size)
          have n0 := q1.cell 0
          have n1 := q1.cell 1
          have m0 := q2.cell 0
          have m1 := q2.cell 1
          have c0 := kz.cell 0
          have c1 := kz.cell 1
          have f0 := kz.frozen 0
          have f1 := kz.frozen 1
          simp only [List.getElem?_toArray, List.getElem?_cons_zero, List.getElem?_cons_succ] at c0 c1 m0 n0 m1 n1
          have hg : (2000 : Int) < (bs.length : Int) + cs.length := by omega
          have k5 := (kz.set 0 (.int .i64 0)).set 1 (.slice none 0 0)
          have hB5 := (hB2.setCell (p := ⟨w.heap.size + 1 + 1, 0, none⟩) (by simp; omega) (.int .i64 0)).setCell (p := ⟨w.heap.size + 1 + 1, 1, none⟩) (by simp; omega) (.slice none 0 0)
          have K5 := Lib.hid k5
          have HB5 := Lib.hid hB5
          clear k5 hB5 H1 H2 hck
          go_wp2_with fail
          exact bodyPost_ret (v := .tuple #[.agg #[.int .i64 0, .slice none 0 0], .int .i64 2]) (results_cell_row_tmp rfl _ _ (w.heap.size + 1 + 1) 24 _ (0, 0) _ _ rfl rfl K5.out Try.underlying24 rfl (by kernel_rfl)) rfl ⟨none, 0, rfl, Rd.nil _ _ _ _, (newmem_none _ _ _), HB5.out⟩
        case pos =>
          rw [show Ln.joinF N bs N cs = ((N, bs ++ cs), 0) from by rw [Ln.joinF, if_pos h1, if_pos h2, if_pos rfl, if_pos h4]]
          obtain ⟨ds, hds⟩ : ∃ ds, bs ++ cs = ds := ⟨_, rfl⟩
          rw [hds]
          dsimp only
          have hbn : (0 : Int) ≤ (bs.length : Int) := Int.natCast_nonneg _
          have hcn : (0 : Int) ≤ (cs.length : Int) := Int.natCast_nonneg _
          have hbl : (bs.length : Int) ≤ 100000 := by omega
          have hcl : (cs.length : Int) ≤ 100000 := by omega
          go_enter Try.func20, Try.ntmps20
          go_wp2_with fail
          refine (check_any N A c bs _ hR1 (by omega)).mono ?_
          rw [h1]
          clear h1
          rintro e w1 ⟨rfl, hb1⟩
          have q2 := k2.below hb1 (by simp)
          have hQ2 := (hQ1.below hb1 (Nat.le_refl _)).more hb1.size
          have m0 := q2.cell 0
          have m1 := q2.cell 1
          simp only [List.getElem?_toArray, List.getElem?_cons_zero, List.getElem?_cons_succ] at m0 m1
          go_wp2_with fail
          refine (check_any N A2 c2 cs _ hQ2 (by omega)).mono ?_
          rw [h2]
          clear h2 m0 m1
          rintro e w2 ⟨rfl, hb2⟩
          have hB1 := hB0.trans (hb1.mono hB0.size)
          have hB2 := hB1.trans (hb2.mono hB1.size)
          have q1 := (k1.below hb1 (by simp; omega)).below hb2 (Nat.lt_of_lt_of_le (by simp; omega) hb1.size)
          have q2 := q2.below hb2 q2.lt
          have kz := (k3.below hb1 (by simp)).below hb2 (Nat.lt_of_lt_of_le (by simp) hb1.size)
          have n0 := q1.cell 0
          have n1 := q1.cell 1
          have m0 := q2.cell 0
          have m1 := q2.cell 1
          have c0 := kz.cell 0
          have c1 := kz.cell 1
          have f0 := kz.frozen 0
          have f1 := kz.frozen 1
          simp only [List.getElem?_toArray, List.getElem?_cons_zero, List.getElem?_cons_succ] at c0 c1 m0 n0 m1 n1
          have hg : (bs.length : Int) + cs.length ≤ 2000 := by omega
          have hl4 : bs.length + cs.length ≤ 1000000 := by omega
          have hR3 := ((hR1.below hb1 (Nat.le_refl _)).more hb1.size).below hb2 (Nat.le_refl _)
          have hR3 := hR3.more hb2.size
          have hQ3 := (hQ2.below hb2 (Nat.le_refl _)).more hb2.size
          have hSB : ∀ W, Below w2.heap.size w2 W → (W.cell? ⟨w.heap.size, 0, none⟩ = some (.int .i64 N) ∧ W.cell? ⟨w.heap.size, 1, none⟩ = some (.slice A bs.length c)) ∧ W.cell? ⟨w.heap.size + 1, 1, none⟩ = some (.slice A2 cs.length c2) := fun W hb =>
            ⟨⟨(hb.cell (p := ⟨w.heap.size, 0, none⟩) q1.lt).trans n0, (hb.cell (p := ⟨w.heap.size, 1, none⟩) q1.lt).trans n1⟩, (hb.cell (p := ⟨w.heap.size + 1, 1, none⟩) q2.lt).trans m1⟩
          have hcc : ∀ b W, Bk W b 22 #[.slice A bs.length c, .slice A2 cs.length c2] → Below w2.heap.size w2 W →
              Calls Try.prog 51 #[.slice (some ⟨b, 0, none⟩) 2 2] W fun e w' => ∃ A' c', e = .returned (.slice A' ds.length c') ∧ Rd w' w'.heap.size 4 A' ds.length (bcells ds) ∧ NewMem W.heap.size w' A' (ds.length * 4) ∧ Below W.heap.size W w' := fun b W hb hB => by
            have h := concat_bk bs cs A A2 c c2 b W hb ((hR3.below hB (Nat.le_refl _)).more hB.size) ((hQ3.below hB (Nat.le_refl _)).more hB.size) hl4
            rw [hds] at h
            exact h
          have KZ := Lib.hid kz
          have HSB := Lib.hid hSB
          have HCC := Lib.hid hcc
          have hzl := kz.lt
          clear H1 H2 hck hcc hSB hR hR2 hR1 hQ1 hQ2 hR3 hQ3 q1 q2 kz k1 k2 k3 hb1 hb2 hB0 hB1 hds
          go_wp2_with fail
          have hbZ : Below w2.heap.size w2 w2.drew := (Below.refl _ _).drew
          go_cut [4, 5] (fun s4 s5 wx => s4 = .pointer (some ⟨w.heap.size + 1 + 1, 0, none⟩) ∧ s5 = .int .i64 0 ∧ ∃ A' c', Bk wx (w.heap.size + 1 + 1) 24 #[.int .i64 N, .slice A' ds.length c'] ∧ Rd wx wx.heap.size 4 A' ds.length (bcells ds) ∧ NewMem (w.heap.size + 3) wx A' (ds.length * 4) ∧ Below w.heap.size w wx)
          case first =>
            go_region_held3 (fun w' => (w'.cell? ⟨w.heap.size, 0, none⟩ = some (.int .i64 N) ∧ w'.cell? ⟨w.heap.size, 1, none⟩ = some (.slice A bs.length c)) ∧ w'.cell? ⟨w.heap.size + 1, 1, none⟩ = some (.slice A2 cs.length c2))
              (first
                | (with_reducible exact keep3 (by omega) (by omega) e0 e1 e2)
                | go_keep
                | ((try dsimp only); first | (with_reducible exact HSB.out _ hbC) | (with_reducible exact HSB.out _ ((Below.refl _ w2).alloc (Nat.le_refl _) _).drew)))
              (first
                | (go_at_call 51; refine (HCC.out w2.heap.size (w2.alloc (.cells #[.slice A bs.length c, .slice A2 cs.length c2] 22)).drew (Bk.new w2 _ _) (((Below.refl _ w2).alloc (Nat.le_refl _) _).drew)).mono ?_; rintro e w3 ⟨A', c', rfl, hrd3, hnw3, hb3⟩; have hbC : Below w2.heap.size w2 w3 := ((((Below.refl _ w2).alloc (Nat.le_refl _) _).drew).trans (hb3.mono (by simp))); have kz3 := KZ.out.below hbC hzl; have c0 := kz3.cell 0; have c1 := kz3.cell 1; have f0 := kz3.frozen 0; have f1 := kz3.frozen 1; simp only [List.getElem?_toArray, List.getElem?_cons_zero, List.getElem?_cons_succ] at c0 c1; obtain ⟨⟨e0, e1⟩, e2⟩ := HSB.out _ hbC))
            all_goals
              have k9 := (kz3.set 0 (.int .i64 N)).set 1 (.slice A' ds.length c')
              have hB9 := ((hB2.trans (hbC.mono hB2.size)).setCell (p := ⟨w.heap.size + 1 + 1, 0, none⟩) (by simp; omega) (.int .i64 N)).setCell (p := ⟨w.heap.size + 1 + 1, 1, none⟩) (by simp; omega) (.slice A' ds.length c')
              have hR9 : Rd ((w3.setCell ⟨w.heap.size + 1 + 1, 0, none⟩ (.int .i64 N)).setCell ⟨w.heap.size + 1 + 1, 1, none⟩ (.slice A' ds.length c')) w3.heap.size 4 A' ds.length (bcells ds) := (hrd3.off (by intro a ha; obtain ⟨g, _, _, rfl, h1, _⟩ := hnw3 a ha; simp at h1; simp; omega)).off (by intro a ha; obtain ⟨g, _, _, rfl, h1, _⟩ := hnw3 a ha; simp at h1; simp; omega)
              have K9 := Lib.hid k9
              have HB9 := Lib.hid hB9
              have HR9 := Lib.hid hR9
              clear k9 hB9 hR9 c0 c1 f0 f1 kz3
              go_wp2_with fail
              go_meet
              exact ⟨rfl, rfl, A', c', K9.out, HR9.out.more (by first | exact Nat.le_refl _ | simp), (((hnw3.lo (B' := w.heap.size + 3) (by have h2 := hB2.size; simp at h2 ⊢; omega)).far (p := ⟨w.heap.size + 1 + 1, 0, none⟩) (by simp) _).far (p := ⟨w.heap.size + 1 + 1, 1, none⟩) (by simp) _), HB9.out⟩
          case rest =>
            obtain ⟨rfl, rfl, A', c', k9, hR9, hN9, hB9⟩ := hcut
            have K9 := Lib.hid k9
            clear k9
            go_wp2_with fail
            exact bodyPost_ret (v := .tuple #[.agg #[.int .i64 N, .slice A' ds.length c'], .int .i64 0]) (results_cell_row_tmp rfl _ _ (w.heap.size + 1 + 1) 24 _ (0, 0) _ _ rfl rfl K9.out Try.underlying24 rfl (by kernel_rfl)) rfl ⟨A', c', rfl, hR9, hN9.lo (by omega), hB9⟩

section
variable (N : Int) (A : Option Addr) (c : Nat) (bs : List Ln.Bd) (w : World)

set_option maxRecDepth 100000 in
set_option maxHeartbeats 4000000 in
theorem some_bk (hR : Rd w w.heap.size 4 A bs.length (bcells bs)) (hc : Ln.Lv bs) :
    Calls Try.prog 21 #[.agg #[.int .i64 N, .slice A bs.length c]] w fun e w' => ∃ A' c', e = .returned (.tuple #[.slice A' (Ln.someF N bs).1.length c', .int .i64 (Ln.someF N bs).2]) ∧ Rd w' w'.heap.size 1 A' (Ln.someF N bs).1.length (ints (Ln.someF N bs).1) ∧ NewMem w.heap.size w' A' (Ln.someF N bs).1.length ∧ Below w.heap.size w w' := by
  have hB0 : Below w.heap.size w (w.alloc (.cells #[.int .i64 N, .slice A bs.length c] 24)) := (Below.refl _ _).alloc (Nat.le_refl _) _
  have hR1 := (hR.below hB0 (Nat.le_refl _)).more hB0.size
  have hP1 := Rd.nil (w.alloc (.cells #[.int .i64 N, .slice A bs.length c] 24)) (w.alloc (.cells #[.int .i64 N, .slice A bs.length c] 24)).heap.size 1 none
  by_cases hs : Ln.soundF N bs [] = 0
  · obtain ⟨hok, hN⟩ := Ln.ok_of_check (Ln.cpF_zero (soundF_zero hs).1)
    rw [show Ln.someF N bs = (Ln.valF bs N.toNat, 0) from by rw [Ln.someF, if_pos hs]]
    have hvl := Ln.valF_length bs N.toNat
    have HS := Lib.hid hs
    have HVL := Lib.hid hvl
    clear hs hvl
    go_enter Try.func21, Try.ntmps21
    go_wp2_with (first
      | (go_at_call 44; refine (sound_fine N A c bs none 0 [] _ hR1 hc hP1 (by simp) HS.out).mono ?_; rintro e w1 ⟨nb, fr, rfl, hNt, hb1⟩)
      | (go_at_call 52; refine (values_any hok _ nb A c fr _ hNt (Nat.le_refl _)).mono ?_; rintro e w2 ⟨g, rfl, hg, kV, hb2⟩))
    go_ret2
    have hvl := HVL.out
    refine ⟨some ⟨g, 0, none⟩, N.toNat, ?_, ?_, (bk_newmem kV (by have h1 := hB0.size; have h2 := hb1.size; omega) (Nat.le_refl _)), (hB0.trans (hb1.mono hB0.size)).trans (hb2.mono (Nat.le_trans hB0.size hb1.size))⟩
    · rw [hvl]
      rfl
    · exact bk_rd kV (by omega)
  · rw [show Ln.someF N bs = ([], Ln.soundF N bs []) from by rw [Ln.someF, if_neg hs]]
    have hne : (Ln.soundF N bs [] != 0) = true := by simp [hs]
    have HS := Lib.hid hs
    clear hs
    go_enter Try.func21, Try.ntmps21
    go_wp2_with (go_at_call 44; refine (sound_err N A c bs none 0 [] _ hR1 hc hP1 (by simp) HS.out).mono ?_; rintro e w1 ⟨rfl, hb1⟩)
    go_ret2
    exact ⟨none, 0, rfl, Rd.nil _ _ _ _, (newmem_none _ _ _), hB0.trans (hb1.mono hB0.size)⟩
end

section
variable (N : Int) (A : Option Addr) (c : Nat) (bs : List Ln.Bd) (p v : Int) (w : World)

set_option maxRecDepth 100000 in
set_option maxHeartbeats 4000000 in
theorem through_bk (hR : Rd w w.heap.size 4 A bs.length (bcells bs)) (hc : Ln.Lv bs) :
    Calls Try.prog 22 #[.agg #[.int .i64 N, .slice A bs.length c], .int .i64 p, .int .i64 v] w fun e w' => ∃ A' c', e = .returned (.tuple #[.slice A' (Ln.thF N bs p v).1.length c', .bool (Ln.thF N bs p v).2.1, .int .i64 (Ln.thF N bs p v).2.2]) ∧ Rd w' w'.heap.size 1 A' (Ln.thF N bs p v).1.length (ints (Ln.thF N bs p v).1) ∧ NewMem w.heap.size w' A' (Ln.thF N bs p v).1.length ∧ Below w.heap.size w w' := by
  have hB0 : Below w.heap.size w ((w.alloc (.cells #[.int .i64 N, .slice A bs.length c] 24)).alloc (.cells #[.int .i64 p] 3)) := ((Below.refl _ _).alloc (Nat.le_refl _) _).alloc (by simp) _
  have hR1 := (hR.below hB0 (Nat.le_refl _)).more hB0.size
  have kS := (Bk.new w 24 #[.int .i64 N, .slice A bs.length c]).alloc (.cells #[.int .i64 p] 3)
  have hP1 : Rd ((w.alloc (.cells #[.int .i64 N, .slice A bs.length c] 24)).alloc (.cells #[.int .i64 p] 3)) ((w.alloc (.cells #[.int .i64 N, .slice A bs.length c] 24)).alloc (.cells #[.int .i64 p] 3)).heap.size 1 (some ⟨w.heap.size + 1, 0, none⟩) [p].length (ints [p]) := by
    have h := Bk.new (w.alloc (.cells #[.int .i64 N, .slice A bs.length c] 24)) 3 #[.int .i64 p]
    rw [World.size_alloc] at h
    exact bk_rd (d := [p]) (by simpa [av] using h) rfl
  by_cases hcp : Ln.cpF N bs [p] = 0
  · by_cases hv : Ln.within v 1000000 = true
    · have hok := Ln.tie_ok hcp hv
      have hlen := cpF_len hcp
      have hlv := Ln.tie_lv hc hlen p v
      have hN := (Ln.ok_of_check (Ln.cpF_zero hcp)).2
      have hvr : -1000000 ≤ v ∧ v ≤ 1000000 := by simpa [Ln.within] using hv
      rw [show Ln.thF N bs p v = if Ln.consF (bs ++ Ln.tieL p v) N.toNat = true then (Ln.valF (bs ++ Ln.tieL p v) N.toNat, true, 0) else ([], false, 0) from by rw [Ln.thF, if_pos hcp, if_pos hv]]
      obtain ⟨M, rfl⟩ : ∃ M : Nat, N = M := ⟨N.toNat, by omega⟩
      rw [Int.toNat_natCast] at hok ⊢
      obtain ⟨cs, hcs⟩ : ∃ cs, bs ++ Ln.tieL p v = cs := ⟨_, rfl⟩
      rw [hcs] at hok hlv ⊢
      obtain ⟨r, hr⟩ : ∃ r : List Int × Bool × Int, (if Ln.consF cs M = true then (Ln.valF cs M, true, 0) else ([], false, 0)) = r := ⟨_, rfl⟩
      rw [hr]
      have HCP := Lib.hid hcp
      have HV := Lib.hid hv
      have HR := Lib.hid hr
      clear hcp hv hN hr
      go_enter Try.func22, Try.ntmps22
      go_upto_region 7 with (first
        | (go_at_call 53; refine (checkPoints_any M A c bs (some ⟨w.heap.size + 1, 0, none⟩) 1 [p] _ hR1 hc.len hP1 (by simp)).mono ?_; rw [HCP.out]; rintro e w1 ⟨rfl, hb1⟩)
        | (go_at_call 54; refine (within_any _ _ (by omega) (by omega) _).mono ?_; rw [HV.out]; rintro e w2 ⟨rfl, rfl⟩))
      have hB1 := hB0.trans (hb1.mono hB0.size)
      have kS1 := (kS.below hb1 (by simp; omega)).alloc (.cells #[.int .i64 0, .int .i64 p, .int .i64 v, .int .i64 0, .int .i64 p, .int .i64 0, .int .i64 (-v), .int .i64 0] 50)
      have hB7 := hB1.alloc hB1.size (.cells #[.int .i64 0, .int .i64 p, .int .i64 v, .int .i64 0, .int .i64 p, .int .i64 0, .int .i64 (-v), .int .i64 0] 50)
      have kT := Bk.new w1 50 #[.int .i64 0, .int .i64 p, .int .i64 v, .int .i64 0, .int .i64 p, .int .i64 0, .int .i64 (-v), .int .i64 0]
      obtain ⟨tb, htb⟩ : ∃ tb, w1.heap.size = tb := ⟨_, rfl⟩
      obtain ⟨W7, hW7⟩ : ∃ W7, w1.alloc (.cells #[.int .i64 0, .int .i64 p, .int .i64 v, .int .i64 0, .int .i64 p, .int .i64 0, .int .i64 (-v), .int .i64 0] 50) = W7 := ⟨_, rfl⟩
      rw [hW7] at kS1 hB7 kT ⊢
      rw [htb] at kT ⊢
      have hR7 : Rd W7 W7.heap.size 4 A bs.length (bcells bs) := (hR.below hB7 (Nat.le_refl _)).more hB7.size
      have hT7 : Rd W7 W7.heap.size 4 (some ⟨tb, 0, none⟩) (Ln.tieL p v).length (bcells (Ln.tieL p v)) := by
        refine ⟨rfl, fun _ => ⟨tb, 0, rfl, kT.lt, fun j hj => ?_⟩⟩
        rw [Nat.zero_add, kT.cell j, show bcells (Ln.tieL p v) = [.int .i64 0, .int .i64 p, .int .i64 v, .int .i64 0, .int .i64 p, .int .i64 0, .int .i64 (-v), .int .i64 0] from rfl]
        simp
      have s0 := kS1.cell 0
      have s1 := kS1.cell 1
      simp only [List.getElem?_toArray, List.getElem?_cons_zero, List.getElem?_cons_succ] at s0 s1
      have hS7 := kS1.lt
      have hSB : ∀ W, Below W7.heap.size W7 W → W.cell? ⟨w.heap.size, 0, none⟩ = some (.int .i64 M) ∧ W.cell? ⟨w.heap.size, 1, none⟩ = some (.slice A bs.length c) := fun W hb =>
        ⟨(hb.cell (p := ⟨w.heap.size, 0, none⟩) (by simp; omega)).trans s0, (hb.cell (p := ⟨w.heap.size, 1, none⟩) (by simp; omega)).trans s1⟩
      have hcc : ∀ b W, Bk W b 22 #[.slice A bs.length c, .slice (some ⟨tb, 0, none⟩) 2 2] → Below W7.heap.size W7 W →
          Calls Try.prog 51 #[.slice (some ⟨b, 0, none⟩) 2 2] W fun e w' => ∃ A' c', e = .returned (.slice A' cs.length c') ∧ Rd w' w'.heap.size 4 A' cs.length (bcells cs) ∧ (∀ a, A' = some a → W.heap.size ≤ a.block) ∧ Below W.heap.size W w' := fun b W hb hB =>
        by
        have h := concat_any bs (Ln.tieL p v) A (some ⟨tb, 0, none⟩) c 2 b W hb ((hR7.below hB (Nat.le_refl _)).more hB.size) ((hT7.below hB (Nat.le_refl _)).more hB.size) (by simp [Ln.tieL]; omega)
        rw [hcs] at h
        exact h
      have HSB := Lib.hid hSB
      have HCC := Lib.hid hcc
      clear hcs hSB hcc htb hW7 kT hT7 hR7 hb1 hR1 kS hP1 hB0 hB1
      go_cut [11] (fun s11 wx => ∃ nb fr A' c', s11 = .pointer (some ⟨nb, 0, none⟩) ∧ IsNet wx wx.heap.size nb M cs A' c' fr ∧ Below W7.heap.size W7 wx)
      case first =>
        go_region_held3 (fun w' => w'.cell? ⟨w.heap.size, 0, none⟩ = some (.int .i64 M) ∧ w'.cell? ⟨w.heap.size, 1, none⟩ = some (.slice A bs.length c))
          (first
            | go_keep
            | ((try dsimp only); first | (with_reducible exact HSB.out _ hbD) | (with_reducible exact HSB.out _ hbC) | (with_reducible exact HSB.out _ ((Below.refl _ W7).alloc (Nat.le_refl _) _).drew)))
          (first
            | (go_at_call 51; refine (HCC.out W7.heap.size (W7.alloc (.cells #[.slice A bs.length c, .slice (some ⟨tb, 0, none⟩) 2 2] 22)).drew (Bk.new W7 _ _) (((Below.refl _ W7).alloc (Nat.le_refl _) _).drew)).mono ?_; rintro e w2 ⟨A', c', rfl, hrd2, _, hb2⟩; have hbC : Below W7.heap.size W7 w2 := ((((Below.refl _ W7).alloc (Nat.le_refl _) _).drew).trans (hb2.mono (by first | exact Nat.le_refl _ | omega | (simp; done) | (simp; omega)))))
            | (go_at_call 34; refine (netOf_any M A' c' cs hok hlv w2 hrd2).mono ?_; rintro e w3 ⟨nb, fr, rfl, hnt, hb3⟩; have hbD : Below W7.heap.size W7 w3 := hbC.trans (hb3.mono hbC.size)))
        all_goals
          go_wp2_with fail
          go_meet
          exact ⟨nb, fr, A', c', rfl, hnt, hbD⟩
      case rest =>
        obtain ⟨nb, fr, A', c', rfl, hnt, hbx⟩ := hcut
        have hBx := hB7.trans (hbx.mono hB7.size)
        rcases hco : Ln.consF cs M with _ | _
        · go_wp2_with (first
            | (go_at_call 35; refine (consistent_any hok _ nb A' c' fr _ hnt (Nat.le_refl _)).mono ?_; rw [hco]; rintro e w3 ⟨rfl, hb3⟩))
          go_ret3
          have hr := HR.out
          rw [hco, if_neg (by simp)] at hr
          subst hr
          refine ⟨none, 0, rfl, Rd.nil _ _ _ _, (newmem_none _ _ _), hBx.trans (hb3.mono hBx.size)⟩
        · go_wp2_with (first
            | (go_at_call 35; refine (consistent_any hok _ nb A' c' fr _ hnt (Nat.le_refl _)).mono ?_; rw [hco]; rintro e w3 ⟨rfl, hb3⟩; have hn3 := hnt.below hb3 (Nat.le_refl _))
            | (go_at_call 52; refine (values_any hok _ nb A' c' fr _ hn3 hb3.size).mono ?_; rintro e w4 ⟨g, rfl, hg, kV, hb4⟩))
          go_ret3
          have hvl := Ln.valF_length cs M
          have hr := HR.out
          rw [hco, if_pos rfl] at hr
          subst hr
          refine ⟨some ⟨g, 0, none⟩, M, ?_, ?_, (bk_newmem kV (by have h1 := hBx.size; have h2 := hb3.size; omega) (Nat.le_refl _)), (hBx.trans (hb3.mono hBx.size)).trans (hb4.mono (Nat.le_trans hBx.size hb3.size))⟩
          · rw [hvl]
            rfl
          · exact bk_rd kV (by omega)
    · have hv' : Ln.within v 1000000 = false := by simpa using hv
      rw [show Ln.thF N bs p v = ([], false, 1) from by rw [Ln.thF, if_pos hcp, if_neg hv]]
      have HCP := Lib.hid hcp
      have HV := Lib.hid hv'
      clear hcp hv hv'
      go_enter Try.func22, Try.ntmps22
      go_wp2_with (first
        | (go_at_call 53; refine (checkPoints_any N A c bs (some ⟨w.heap.size + 1, 0, none⟩) 1 [p] _ hR1 hc.len hP1 (by simp)).mono ?_; rw [HCP.out]; rintro e w1 ⟨rfl, hb1⟩)
        | (go_at_call 54; refine (within_any _ _ (by omega) (by omega) _).mono ?_; rw [HV.out]; rintro e w2 ⟨rfl, rfl⟩))
      go_ret3
      exact ⟨none, 0, rfl, Rd.nil _ _ _ _, (newmem_none _ _ _), hB0.trans (hb1.mono hB0.size)⟩
  · rw [show Ln.thF N bs p v = ([], false, Ln.cpF N bs [p]) from by rw [Ln.thF, if_neg hcp]]
    have hne : (Ln.cpF N bs [p] != 0) = true := by simp [hcp]
    clear hcp
    go_enter Try.func22, Try.ntmps22
    go_wp2_with (go_at_call 53; refine (checkPoints_any N A c bs (some ⟨w.heap.size + 1, 0, none⟩) 1 [p] _ hR1 hc.len hP1 (by simp)).mono ?_; rintro e w1 ⟨rfl, hb1⟩)
    go_ret3
    exact ⟨none, 0, rfl, Rd.nil _ _ _ _, (newmem_none _ _ _), hB0.trans (hb1.mono hB0.size)⟩
end

end Go.Proofs.Yteiaofgkmgllcaa

namespace Go.Proofs.Yteiaofgkmgllcaa
open Go.RowKit Go.Shelf Go.Maps

theorem NewMem.set {B m : Nat} {w : World} {g : Nat} (h : NewMem B w (some ⟨g, 0, none⟩) m) (i : Nat) (u : Value) : NewMem B (w.setCell ⟨g, i, none⟩ u) (some ⟨g, 0, none⟩) m := fun a e => by
  obtain ⟨g', t, cs, h1, h2, h3, h4⟩ := h a e
  cases e
  cases h1
  exact ⟨g, t, _, rfl, h2, h3.set i u, by simpa using h4⟩
theorem NewMem.alloc {B m : Nat} {w : World} {A : Option Addr} (h : NewMem B w A m) (o : Obj) : NewMem B (w.alloc o) A m := h.below ((Below.refl _ _).alloc (Nat.le_refl _) _) (Nat.le_refl _)
theorem NewMem.at {B m : Nat} {w : World} {g : Nat} (h : NewMem B w (some ⟨g, 0, none⟩) m) : B ≤ g ∧ g < w.heap.size ∧ (∀ i, i < m → ∃ u, w.cell? ⟨g, i, none⟩ = some u) ∧ ∀ i, w.frozen? ⟨g, i, none⟩ = false := by
  obtain ⟨g', t, cs, h1, h2, h3, h4⟩ := h _ rfl
  cases h1
  exact ⟨h2, h3.lt, fun i hi => ⟨cs[i]'(by omega), by rw [h3.cell]; simp [show i < cs.size by omega]⟩, fun i => h3.frozen i⟩
theorem newmem_some {B m : Nat} {w : World} {A : Option Addr} (h : NewMem B w A m) {size n : Nat} {xs : List Value} {C : Nat} (hr : Rd w C size A n xs) (hn : 0 < n) : ∃ g, A = some ⟨g, 0, none⟩ ∧ B ≤ g ∧ g < w.heap.size := by
  obtain ⟨b, off, rfl, _, _⟩ := hr.2 hn
  obtain ⟨g', t, cs, h1, h2, h3, h4⟩ := h _ rfl
  exact ⟨g', by rw [h1], h2, h3.lt⟩

theorem own_capM {w : World} {base : Nat} {e : TypeId} {size : Nat} {v : Value} {n : Nat} {xs : List Value} (h : w.ownsRow base e size v n xs) :
    ∃ A c, v = .slice A n c ∧ n ≤ c ∧ Rd w w.heap.size size A n xs := by
  rcases h.2 with ⟨rfl, h0⟩ | ⟨g, cap, cur, rfl, _, hg, hc, _⟩
  · exact ⟨none, 0, by rw [h0], by omega, h.1, fun hn => absurd hn (by omega)⟩
  · refine ⟨_, _, rfl, hc, h.1, fun hn => ⟨g, 0, rfl, (Array.getElem?_eq_some_iff.1 hg).1, fun j hj => ?_⟩⟩
    rw [Nat.zero_add]
    exact h.cellAt j hj

namespace Ln
theorem someF_top {N : Int} {bs : List Bd} : (someF N bs).1.length ≤ 128 := by
  unfold someF
  split
  · rename_i h
    have := (ok_of_check (sound_zero h).2.2).1.top
    have h2 := valF_length bs N.toNat
    dsimp only
    omega
  · simp
theorem thF_top {N : Int} {bs : List Bd} {p v : Int} : (thF N bs p v).1.length ≤ 128 := by
  unfold thF
  split
  · rename_i h
    have := (ok_of_check (cpF_zero h)).1.top
    have h2 := valF_length (bs ++ tieL p v) N.toNat
    split
    · split
      · dsimp only
        omega
      · simp
    · simp
  · simp
theorem woF_top {N : Int} {bs : List Bd} {l : List Int} : (woF N bs l).1.2.length ≤ bs.length := by
  unfold woF
  split
  · exact woL_length _ _
  · simp
theorem joinF_top {N : Int} {bs : List Bd} : (joinF N bs N []).1.2.length ≤ bs.length := by
  unfold joinF
  split
  · split
    · split
      · split
        · simp
        · simp
      · simp
    · simp
  · simp
end Ln

section
variable (N : Int) (A : Option Addr) (c : Nat) (bs : List Ln.Bd) (A2 : Option Addr) (c2 : Nat) (y : List Int) (p v : Int) (w : World)

set_option maxRecDepth 100000 in
set_option maxHeartbeats 2000000 in
theorem memory_early (hR : Rd w w.heap.size 4 A bs.length (bcells bs)) (hn : bs.length ≤ 9223372036854775807) (h : Ln.fewF N bs.length 14 40 = false ∨ (Ln.fewF N bs.length 14 40 = true ∧ 20 < y.length)) :
    Calls Try.prog 5 #[.agg #[.int .i64 N, .slice A bs.length c], .slice A2 y.length c2, .int .i64 p, .int .i64 v] w fun e w' => e = .returned (.bool true) ∧ Below w.heap.size w w' := by
  have s0 := Sy.new (w := w) N c hR
  have hc : (Ln.fewF N bs.length 14 40 = false) ∨ (Ln.fewF N bs.length 14 40 = true ∧ (20 : Int) < (y.length : Int)) := h.imp id (fun ⟨a, b⟩ => ⟨a, by omega⟩)
  clear h
  rcases hc with h | ⟨h, hl⟩
  all_goals
    have HF := Lib.hid h
    clear h
    go_enter Try.func5, Try.ntmps5
    go_wp2_with fail
    refine (some_law N A bs.length c hn _).mono ?_
    rw [HF.out]
    rintro e w1 ⟨rfl, hb1⟩
    have s1 := s0.step hb1
    go_wp2_with fail
    refine (alive_any _).mono ?_
    rintro e w2 ⟨rfl, hb2⟩
    have s2 := s1.step hb2
    go_wp2_with fail
    go_ret
    exact ⟨rfl, s2.bl⟩

set_option maxRecDepth 100000 in
set_option maxHeartbeats 8000000 in
theorem memory_main (hR : Rd w w.heap.size 4 A bs.length (bcells bs)) (hn : bs.length ≤ 9223372036854775807) (hlv : ∀ x ∈ bs, x.gone = false) (hf : Ln.fewF N bs.length 14 40 = true) (hY : Rd w w.heap.size 1 A2 y.length (ints y)) (hl : (y.length : Int) ≤ 20) :
    Calls Try.prog 5 #[.agg #[.int .i64 N, .slice A bs.length c], .slice A2 y.length c2, .int .i64 p, .int .i64 v] w fun e w' => e = .returned (.bool true) ∧ Below w.heap.size w w' := by
  have s0 := Sy.new (w := w) N c hR
  obtain ⟨i0, hi0, hz0, hz1, hz2⟩ := info_parts info3
  obtain ⟨i1, hi1, hy0, hy1, hy2⟩ := info_parts info69'
  have hlen := Ln.fewF_len hf (by omega)
  have hLv : Ln.Lv bs := ⟨by omega, hlv⟩
  have h14 : Ln.check N bs = 0 → N ≤ 14 := fun h => (Ln.fewF_ok hf h).1
  have hwo := fun w h => without_bk N A c bs none 0 [] w h hLv (Rd.nil _ _ _ _) (by simp) (by simp)
  have hjo := fun w h => join_bk N A c bs N none 0 [] w h (by omega) (Rd.nil _ _ _ _) (by simp)
  have hso := fun w h => some_bk N A c bs w h hLv
  have hth := fun w h => through_bk N A c bs p v w h hLv
  have hke := fun w h h2 => kept_any N A c bs A2 c2 y w h (by omega) h2 (by omega)
  have hrs := fun A c w h => rSome_any N A c bs w h hLv h14
  have hwl := Ln.woF_top (N := N) (bs := bs) (l := [])
  have hjl := Ln.joinF_top (N := N) (bs := bs)
  have hsl := Ln.someF_top (N := N) (bs := bs)
  have htl := Ln.thF_top (N := N) (bs := bs) (p := p) (v := v)
  obtain ⟨⟨⟨wn, wl⟩, we⟩, hw⟩ : ∃ q, Ln.woF N bs [] = q := ⟨_, rfl⟩
  obtain ⟨⟨⟨jn, jl⟩, je⟩, hj⟩ : ∃ q, Ln.joinF N bs N [] = q := ⟨_, rfl⟩
  obtain ⟨⟨sl, se⟩, hs⟩ : ∃ q, Ln.someF N bs = q := ⟨_, rfl⟩
  obtain ⟨⟨tl, tb, te⟩, ht⟩ : ∃ q, Ln.thF N bs p v = q := ⟨_, rfl⟩
  obtain ⟨⟨kv, kr, ke⟩, hk⟩ : ∃ q, Ln.keptF N bs y = q := ⟨_, rfl⟩
  simp only [hw] at hwo hwl
  simp only [hj] at hjo hjl
  simp only [hs] at hso hrs hsl
  simp only [ht] at hth htl
  simp only [hk] at hke
  have HWO := Lib.hid hwo
  have HJO := Lib.hid hjo
  have HSO := Lib.hid hso
  have HTH := Lib.hid hth
  have HKE := Lib.hid hke
  have HRS := Lib.hid hrs
  have HF := Lib.hid hf
  have hbn : bs.length ≤ 2005 := hlen
  clear hwo hjo hso hth hke hrs hw hj hs ht hk hf h14 hLv hlv hlen
  go_enter Try.func5, Try.ntmps5
  go_wp2_with fail
  refine (some_law N A bs.length c hn _).mono ?_
  rw [HF.out]
  rintro e w1 ⟨rfl, hb1⟩
  have s1 := s0.step hb1
  clear s0 hb1
  obtain ⟨c0, c1, cl⟩ := s1.cells
  have hown0 : (w1.alloc (.cells #[] 50)).ownsRow w1.heap.size 50 4 (.slice (some ⟨w1.heap.size, 0, none⟩) 0 0) 0 [] := World.ownsRow_lit w1 #[] 0 (Nat.le_refl _) (by unfold maxLen; omega) rfl
  have hbW : Below w1.heap.size w1 (w1.alloc (.cells #[] 50)) := (Below.refl _ _).alloc (Nat.le_refl _) _
  have hR3 := (s1.rd.below hbW (Nat.le_refl _)).more hbW.size
  go_wp2_with (first
    | (at_builtin; refine wpList_append_rd rfl (.tmp 37) (.tmp 39) 22 rfl w1.heap.size 50 i1 _ 4 32 Try.underlying22 hi1 hy0 hy1 hy2 rfl (by omega) (.slice (some ⟨w1.heap.size, 0, none⟩) 0 0) 0 [] rfl hown0 A bs.length c _ (bcells bs) rfl hR3 (bcells_one bs) (by unfold maxLen; omega) (by omega) (by simp) ?_; intro v1 w2 hown1 hg1 hat1; rw [Nat.zero_add, List.nil_append] at hown1; obtain ⟨A5, c5, rfl, hc5, hr5⟩ := own_capM hown1; have hb2 := hbW.grown hg1 (by simp) (fun j e => (hown0.lt j e).1); have s2 := s1.step hb2; have hownI : (w2.alloc (.cells #[] 3)).ownsRow w2.heap.size 3 1 (.slice (some ⟨w2.heap.size, 0, none⟩) 0 0) 0 [] := World.ownsRow_lit w2 #[] 0 (Nat.le_refl _) (by unfold maxLen; omega) rfl; have hbI : Below w2.heap.size w2 (w2.alloc (.cells #[] 3)) := (Below.refl _ _).alloc (Nat.le_refl _) _; have hYI := (hY.below (s2.bl.trans (hbI.mono s2.bl.size)) (Nat.le_refl _)).more (s2.bl.trans (hbI.mono s2.bl.size)).size; clear hown0 hbW hR3 hown1 hg1 hat1)
    | (at_builtin; refine wpList_append_rd rfl (.tmp 41) (.tmp 42) 25 rfl w2.heap.size 3 i0 _ 1 8 Try.underlying25 hi0 hz0 hz1 hz2 rfl (by omega) (.slice (some ⟨w2.heap.size, 0, none⟩) 0 0) 0 [] rfl hownI A2 y.length c2 _ (ints y) rfl hYI (ints_one _) (by unfold maxLen; omega) (by omega) (by simp) ?_; intro v2 w3 hown2 hg2 hat2; rw [Nat.zero_add, List.nil_append] at hown2; obtain ⟨A6, c6, rfl, hc6, hr6⟩ := own_capM hown2; have hb3 := hbI.grown hg2 (by simp) (fun j e => (hownI.lt j e).1); have s3 := s2.step hb3; have hr53 := (hr5.below hb3 (Nat.le_refl _)).more hb3.size; clear hownI hbI hYI hown2 hg2 hat2 hr5 c0 c1 cl; obtain ⟨c0, c1, cl⟩ := s3.cells))
  have hbn4 : bs.length ≤ 1000000 := by omega
  refine (HWO.out _ s3.rd).mono ?_
  rintro e w4 ⟨Aw, cw, rfl, hrw, hnw, hb4⟩
  have hgw := fun h => newmem_some hnw hrw h
  have kb := Bk.new w4 24 #[.int .i64 wn, .slice Aw wl.length cw]
  have hnw1 := hnw.alloc (.cells #[.int .i64 wn, .slice Aw wl.length cw] 24)
  have hB4 := hb4.alloc hb4.size (.cells #[.int .i64 wn, .slice Aw wl.length cw] 24)
  have HGW := Lib.hid hgw
  clear c0 c1 cl hrw hgw hnw
  obtain ⟨bx, hbx⟩ : ∃ bx, w4.heap.size = bx := ⟨_, rfl⟩
  have hbx3 : w3.heap.size ≤ bx := by rw [← hbx]; exact hb4.size
  go_wp2_with fail
  rw [hbx] at kb HGW
  clear hb4
  obtain ⟨W5, hW5⟩ : ∃ W5, w4.alloc (.cells #[.int .i64 wn, .slice Aw wl.length cw] 24) = W5 := ⟨_, rfl⟩
  rw [hW5] at kb hnw1 hB4 ⊢
  clear hW5 hbx
  have hwl0 : (0 : Int) ≤ (wl.length : Int) := Int.natCast_nonneg _
  go_loopw [52] (fun I wr => ∃ k : Nat, k ≤ wl.length ∧ I = .int .i64 k ∧ NewMem w3.heap.size wr Aw (wl.length * 4) ∧ Bk wr bx 24 #[.int .i64 wn, .slice Aw wl.length cw] ∧ Below w3.heap.size w3 wr)
    (fun I _ => wl.length - (intOf I).toNat)
  case atStart => exact ⟨0, Nat.zero_le _, rfl, hnw1, kb, hB4⟩
  case round =>
    clear hnw1 kb hB4
    obtain ⟨k, hk, rfl, hN, kb, hB⟩ := hrel
    have b1 := (kb.cell 1).trans rfl
    have lb := kb.lt
    by_cases hkl : k < wl.length
    · obtain ⟨g, rfl, hg1, hg2⟩ := HGW.out (by omega)
      obtain ⟨_, hg3, hcs, hfs⟩ := NewMem.at hN
      obtain ⟨u0, e0⟩ := hcs (k * 4) (by omega)
      obtain ⟨u1, e1⟩ := hcs (k * 4 + 1) (by omega)
      obtain ⟨u2, e2⟩ := hcs (k * 4 + 2) (by omega)
      obtain ⟨u3, e3⟩ := hcs (k * 4 + 3) (by omega)
      have f0 := hfs (k * 4)
      have f1 := hfs (k * 4 + 1)
      have f2 := hfs (k * 4 + 2)
      have f3 := hfs (k * 4 + 3)
      have hki : (k : Int) < (wl.length : Int) := by omega
      have REL := Lib.hid (And.intro ((((hN.set (k * 4) (.int .i64 0)).set (k * 4 + 1) (.int .i64 0)).set (k * 4 + 2) (.int .i64 0)).set (k * 4 + 3) (.int .i64 0)) (And.intro ((((kb.far (p := ⟨g, k * 4, none⟩) (by simp; omega) (.int .i64 0)).far (p := ⟨g, k * 4 + 1, none⟩) (by simp; omega) (.int .i64 0)).far (p := ⟨g, k * 4 + 2, none⟩) (by simp; omega) (.int .i64 0)).far (p := ⟨g, k * 4 + 3, none⟩) (by simp; omega) (.int .i64 0))
        ((((hB.setCell (p := ⟨g, k * 4, none⟩) hg1 (.int .i64 0)).setCell (p := ⟨g, k * 4 + 1, none⟩) hg1 (.int .i64 0)).setCell (p := ⟨g, k * 4 + 2, none⟩) hg1 (.int .i64 0)).setCell (p := ⟨g, k * 4 + 3, none⟩) hg1 (.int .i64 0))))
      clear hN kb hB hcs hfs
      go_wp2_with fail
      go_roundw
      case rel => exact ⟨k + 1, by omega, by go_num, REL.out.1, REL.out.2.1, REL.out.2.2⟩
      case measure => simp [intOf]; omega
    · obtain rfl : k = wl.length := by omega
      have s6 := s3.step hB
      have hB6 := hB
      clear hN kb hB b1 lb
      obtain ⟨c0, c1, cl⟩ := s6.cells
      obtain ⟨W6, hW6⟩ : ∃ W6, W6 = wr := ⟨_, rfl⟩
      subst hW6
      go_wp2_with fail
      refine (HJO.out _ s6.rd).mono ?_
      rintro e w7 ⟨Aj, cj, rfl, hrj, hnj, hb7⟩
      have hgj := fun h => newmem_some hnj hrj h
      have kb := Bk.new w7 24 #[.int .i64 jn, .slice Aj jl.length cj]
      have hnj1 := (hnj.lo hB6.size).alloc (.cells #[.int .i64 jn, .slice Aj jl.length cj] 24)
      have hB7 := (hB6.trans (hb7.mono hB6.size)).alloc (Nat.le_trans hB6.size hb7.size) (.cells #[.int .i64 jn, .slice Aj jl.length cj] 24)
      have HGJ := Lib.hid hgj
      have hb76 := hB6.size
      clear c0 c1 cl hrj hgj hnj
      obtain ⟨by_, hby⟩ : ∃ bx, w7.heap.size = bx := ⟨_, rfl⟩
      go_wp2_with fail
      rw [hby] at kb HGJ
      clear hb7
      obtain ⟨W8, hW8⟩ : ∃ W8, w7.alloc (.cells #[.int .i64 jn, .slice Aj jl.length cj] 24) = W8 := ⟨_, rfl⟩
      rw [hW8] at kb hnj1 hB7 ⊢
      clear hW8 hby
      have hjl0 : (0 : Int) ≤ (jl.length : Int) := Int.natCast_nonneg _
      go_loopw [72] (fun I wr => ∃ k : Nat, k ≤ jl.length ∧ I = .int .i64 k ∧ NewMem w3.heap.size wr Aj (jl.length * 4) ∧ Bk wr by_ 24 #[.int .i64 jn, .slice Aj jl.length cj] ∧ Below w3.heap.size w3 wr)
        (fun I _ => jl.length - (intOf I).toNat)
      case atStart => exact ⟨0, Nat.zero_le _, rfl, hnj1, kb, hB7⟩
      case round =>
        clear hnj1 kb hB7
        obtain ⟨k, hk, rfl, hN, kb, hB⟩ := hrel
        have b1 := (kb.cell 1).trans rfl
        have lb := kb.lt
        by_cases hkl : k < jl.length
        · obtain ⟨g, rfl, hg1, hg2⟩ := HGJ.out (by omega)
          have hg1 : w3.heap.size ≤ g := by omega
          obtain ⟨_, hg3, hcs, hfs⟩ := NewMem.at hN
          obtain ⟨u0, e0⟩ := hcs (k * 4) (by omega)
          obtain ⟨u1, e1⟩ := hcs (k * 4 + 1) (by omega)
          obtain ⟨u2, e2⟩ := hcs (k * 4 + 2) (by omega)
          obtain ⟨u3, e3⟩ := hcs (k * 4 + 3) (by omega)
          have f0 := hfs (k * 4)
          have f1 := hfs (k * 4 + 1)
          have f2 := hfs (k * 4 + 2)
          have f3 := hfs (k * 4 + 3)
          have hki : (k : Int) < (jl.length : Int) := by omega
          have REL := Lib.hid (And.intro ((((hN.set (k * 4) (.int .i64 0)).set (k * 4 + 1) (.int .i64 0)).set (k * 4 + 2) (.int .i64 0)).set (k * 4 + 3) (.int .i64 0)) (And.intro ((((kb.far (p := ⟨g, k * 4, none⟩) (by simp; omega) (.int .i64 0)).far (p := ⟨g, k * 4 + 1, none⟩) (by simp; omega) (.int .i64 0)).far (p := ⟨g, k * 4 + 2, none⟩) (by simp; omega) (.int .i64 0)).far (p := ⟨g, k * 4 + 3, none⟩) (by simp; omega) (.int .i64 0))
            ((((hB.setCell (p := ⟨g, k * 4, none⟩) hg1 (.int .i64 0)).setCell (p := ⟨g, k * 4 + 1, none⟩) hg1 (.int .i64 0)).setCell (p := ⟨g, k * 4 + 2, none⟩) hg1 (.int .i64 0)).setCell (p := ⟨g, k * 4 + 3, none⟩) hg1 (.int .i64 0))))
          clear hN kb hB hcs hfs
          go_wp2_with fail
          go_roundw
          case rel => exact ⟨k + 1, by omega, by go_num, REL.out.1, REL.out.2.1, REL.out.2.2⟩
          case measure => simp [intOf]; omega
        · obtain rfl : k = jl.length := by omega
          have s9 := s3.step hB
          have hB9 := hB
          clear hN kb hB b1 lb s6 hB6 hb76
          obtain ⟨c0, c1, cl⟩ := s9.cells
          obtain ⟨W9, hW9⟩ : ∃ W9, W9 = wr := ⟨_, rfl⟩
          subst hW9
          go_wp2_with fail
          refine (HSO.out _ s9.rd).mono ?_
          rintro e w10 ⟨As, cs, rfl, hrs, hns, hb10⟩
          have hgs := fun h => newmem_some hns hrs h
          have hns1 := hns.lo hB9.size
          have hB10 := hB9.trans (hb10.mono hB9.size)
          have HGS := Lib.hid hgs
          have hb93 := hB9.size
          have hsl0 : (0 : Int) ≤ (sl.length : Int) := Int.natCast_nonneg _
          clear c0 c1 cl hrs hgs hns hb10
          go_wp2_with fail
          go_loopw [88] (fun I wr => ∃ k : Nat, k ≤ sl.length ∧ I = .int .i64 k ∧ NewMem w3.heap.size wr As sl.length ∧ Below w3.heap.size w3 wr)
            (fun I _ => sl.length - (intOf I).toNat)
          case atStart => exact ⟨0, Nat.zero_le _, rfl, hns1, hB10⟩
          case round =>
            clear hns1 hB10
            obtain ⟨k, hk, rfl, hN, hB⟩ := hrel
            by_cases hkl : k < sl.length
            · obtain ⟨g, rfl, hg1, hg2⟩ := HGS.out (by omega)
              have hg1 : w3.heap.size ≤ g := by omega
              obtain ⟨_, hg3, hcs, hfs⟩ := NewMem.at hN
              obtain ⟨u0, e0⟩ := hcs k (by omega)
              have f0 := hfs k
              have hki : (k : Int) < (sl.length : Int) := by omega
              have REL := Lib.hid (And.intro (hN.set k (.int .i64 (-1))) (hB.setCell (p := ⟨g, k, none⟩) hg1 (.int .i64 (-1))))
              clear hN hB hcs hfs
              go_wp2_with fail
              go_roundw
              case rel => exact ⟨k + 1, by omega, by go_num, REL.out.1, REL.out.2⟩
              case measure => simp [intOf]; omega
            · obtain rfl : k = sl.length := by omega
              have s11 := s3.step hB
              have hB11 := hB
              clear hN hB s9 hB9 hb93
              obtain ⟨c0, c1, cl⟩ := s11.cells
              obtain ⟨W11, hW11⟩ : ∃ W11, W11 = wr := ⟨_, rfl⟩
              subst hW11
              go_wp2_with fail
              refine (HTH.out _ s11.rd).mono ?_
              rintro e w12 ⟨At, ct, rfl, hrt, hnt, hb12⟩
              have hgt := fun h => newmem_some hnt hrt h
              have hnt1 := hnt.lo hB11.size
              have hB12 := hB11.trans (hb12.mono hB11.size)
              have HGT := Lib.hid hgt
              have hb113 := hB11.size
              have htl0 : (0 : Int) ≤ (tl.length : Int) := Int.natCast_nonneg _
              clear c0 c1 cl hrt hgt hnt hb12
              go_wp2_with fail
              go_loopw [105] (fun I wr => ∃ k : Nat, k ≤ tl.length ∧ I = .int .i64 k ∧ NewMem w3.heap.size wr At tl.length ∧ Below w3.heap.size w3 wr)
                (fun I _ => tl.length - (intOf I).toNat)
              case atStart => exact ⟨0, Nat.zero_le _, rfl, hnt1, hB12⟩
              case round =>
                clear hnt1 hB12
                obtain ⟨k, hk, rfl, hN, hB⟩ := hrel
                by_cases hkl : k < tl.length
                · obtain ⟨g, rfl, hg1, hg2⟩ := HGT.out (by omega)
                  have hg1 : w3.heap.size ≤ g := by omega
                  obtain ⟨_, hg3, hcs, hfs⟩ := NewMem.at hN
                  obtain ⟨u0, e0⟩ := hcs k (by omega)
                  have f0 := hfs k
                  have hki : (k : Int) < (tl.length : Int) := by omega
                  have REL := Lib.hid (And.intro (hN.set k (.int .i64 (-1))) (hB.setCell (p := ⟨g, k, none⟩) hg1 (.int .i64 (-1))))
                  clear hN hB hcs hfs
                  go_wp2_with fail
                  go_roundw
                  case rel => exact ⟨k + 1, by omega, by go_num, REL.out.1, REL.out.2⟩
                  case measure => simp [intOf]; omega
                · obtain rfl : k = tl.length := by omega
                  have s13 := s3.step hB
                  have hr5 := (hr53.below hB (Nat.le_refl _)).more hB.size
                  have hr6' := (hr6.below hB (Nat.le_refl _)).more hB.size
                  clear hN s11 hB11 hb113 hB
                  obtain ⟨c0, c1, cl⟩ := s13.cells
                  obtain ⟨W13, hW13⟩ : ∃ W13, W13 = wr := ⟨_, rfl⟩
                  subst hW13
                  go_wp2_with fail
                  refine (HKE.out _ s13.rd ((hY.below s13.bl (Nat.le_refl _)).more s13.bl.size)).mono ?_
                  rintro e w14 ⟨rfl, hb14⟩
                  have s14 := s13.step hb14
                  have hr5 := (hr5.below hb14 (Nat.le_refl _)).more hb14.size
                  have hr6' := (hr6'.below hb14 (Nat.le_refl _)).more hb14.size
                  clear c0 c1 cl s13 hb14
                  obtain ⟨c0, c1, cl⟩ := s14.cells
                  go_wp2_with fail
                  refine (HSO.out _ s14.rd).mono ?_
                  rintro e w15 ⟨Ab, cb, rfl, hrb, _, hb15⟩
                  have s15 := s14.step hb15
                  have hr5 := (hr5.below hb15 (Nat.le_refl _)).more hb15.size
                  have hr6' := (hr6'.below hb15 (Nat.le_refl _)).more hb15.size
                  clear c0 c1 cl s14 hb15
                  obtain ⟨c0, c1, cl⟩ := s15.cells
                  go_wp2_with fail
                  refine (HRS.out A5 c5 _ hr5).mono ?_
                  rintro e w16 ⟨Ac, cc, rfl, hrc, hb16⟩
                  have s16 := s15.step hb16
                  have hr5 := (hr5.below hb16 (Nat.le_refl _)).more hb16.size
                  have hr6' := (hr6'.below hb16 (Nat.le_refl _)).more hb16.size
                  have hrb := (hrb.below hb16 (Nat.le_refl _)).more hb16.size
                  clear c0 c1 cl s15 hb16
                  go_wp2_with fail
                  refine (alive_any _).mono ?_
                  rintro e w17 ⟨rfl, hb17⟩
                  have s17 := s16.step hb17
                  have hr5 := (hr5.below hb17 (Nat.le_refl _)).more hb17.size
                  have hr6' := (hr6'.below hb17 (Nat.le_refl _)).more hb17.size
                  have hrb := (hrb.below hb17 (Nat.le_refl _)).more hb17.size
                  have hrc := (hrc.below hb17 (Nat.le_refl _)).more hb17.size
                  clear s16 hb17
                  have hsm := sameInts_any Ab cb sl Ac cc sl w17 hrb hrc (by omega) (by omega)
                  rw [show sameI sl sl = true from by unfold sameI; simp] at hsm
                  have HSM := Lib.hid hsm
                  clear hsm hrb hrc
                  have b1 : (se == se) = true := by simp
                  go_wp2_with fail
                  refine HSM.out.mono ?_
                  rintro e w18 ⟨rfl, hb18⟩
                  have s18 := s17.step hb18
                  have hr5 := (hr5.below hb18 (Nat.le_refl _)).more hb18.size
                  have hr6' := (hr6'.below hb18 (Nat.le_refl _)).more hb18.size
                  clear s17 hb18
                  have hsm := sameInts_any A2 c2 y A6 c6 y w18 ((hY.below s18.bl (Nat.le_refl _)).more s18.bl.size) hr6' (by omega) (by omega)
                  rw [show sameI y y = true from by unfold sameI; simp] at hsm
                  have HSM2 := Lib.hid hsm
                  clear hsm hr6'
                  go_wp2_with fail
                  refine HSM2.out.mono ?_
                  rintro e w19 ⟨rfl, hb19⟩
                  have s19 := s18.step hb19
                  have hr5 := (hr5.below hb19 (Nat.le_refl _)).more hb19.size
                  clear s18 hb19
                  obtain ⟨c0, c1, cl⟩ := s19.cells
                  have hsm := same_any N A c A5 c5 bs w19 s19.rd hr5 hbn4
                  have HSM3 := Lib.hid hsm
                  clear hsm hr5
                  go_wp2_with fail
                  refine HSM3.out.mono ?_
                  rintro e w20 ⟨rfl, hb20⟩
                  have s20 := s19.step hb20
                  go_wp2_with fail
                  go_ret
                  exact ⟨rfl, s20.bl⟩

theorem lineMemory_any (hR : Rd w w.heap.size 4 A bs.length (bcells bs)) (hn : bs.length ≤ 9223372036854775807) (hlv : ∀ x ∈ bs, x.gone = false) (hY : Rd w w.heap.size 1 A2 y.length (ints y)) :
    Calls Try.prog 5 #[.agg #[.int .i64 N, .slice A bs.length c], .slice A2 y.length c2, .int .i64 p, .int .i64 v] w fun e w' => e = .returned (.bool true) ∧ Below w.heap.size w w' := by
  rcases hf : Ln.fewF N bs.length 14 40 with _ | _
  · exact memory_early N A c bs A2 c2 y p v w hR hn (.inl hf)
  · by_cases hl : 20 < y.length
    · exact memory_early N A c bs A2 c2 y p v w hR hn (.inr ⟨hf, hl⟩)
    · exact memory_main N A c bs A2 c2 y p v w hR hn hlv hf hY (by omega)
end

end Go.Proofs.Yteiaofgkmgllcaa

