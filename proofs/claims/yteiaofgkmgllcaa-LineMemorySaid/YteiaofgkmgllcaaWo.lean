/-
  Without.
-/
import Derived.Maps.Own
import Derived.Maps.Views
import Derived.Test.YteiaofgkmgllcaaConcat
import Derived.Test.YteiaofgkmgllcaaMath
import Derived.Test.YteiaofgkmgllcaaPoss
import Derived.Test.YteiaofgkmgllcaaSome
set_option linter.unusedVariables false
set_option linter.unusedSimpArgs false
namespace Go.Proofs.Yteiaofgkmgllcaa
open Go.RowKit Go.Maps

def boElem : Value → Option (DataW Unit × List MemPlace)
  | .bool b => some (.lit (.bool b), [])
  | _ => none
theorem boElem_inv {v : Value} {b : Bool} {ps : List MemPlace} (h : boElem v = some (.lit (.bool b), ps)) : v = .bool b := by
  unfold boElem at h
  split at h
  · simp at h
    rw [h.1]
  · cases h
theorem keyedI : Keyed Try.prog 3 := int_keyed Try.underlying3
theorem zeroBo (w : World) : (zeroValue 4).run Try.prog w = .ok (.bool false) w := by kernel_rfl

namespace Ln
def setP (D : DataW Unit) (r : Int) : DataW Unit := D.put (.int .i64 r) (.lit (.bool true))
def setD (l : List Int) : DataW Unit := l.foldl setP (.map [])
theorem setD_snoc (l : List Int) (r : Int) : setD (l ++ [r]) = (setD l).put (.int .i64 r) (.lit (.bool true)) := by simp [setD, setP]
theorem setP_at (r : Int) : ∀ (l : List Int) (D : DataW Unit), IsMap D → (l.foldl setP D).atKey (.int .i64 r) (.lit (.bool false)) = if r ∈ l then .lit (.bool true) else D.atKey (.int .i64 r) (.lit (.bool false))
  | [], D, _ => by simp
  | x :: l, D, hD => by
    rw [List.foldl_cons, setP_at r l (setP D x) (hD.put _ _)]
    by_cases hl : r ∈ l
    · simp [hl]
    · rw [if_neg hl]
      by_cases hx : r = x
      · subst hx
        rw [if_pos (by simp)]
        unfold setP
        exact atKey_put_same (k := .int .i64 r) hD trivial _ _
      · rw [if_neg (by simp [hl, hx])]
        unfold setP
        exact atKey_put_other (fun e => hx (by injection e)) _ _
theorem setD_at (r : Int) (l : List Int) : (setD l).atKey (.int .i64 r) (.lit (.bool false)) = .lit (.bool (decide (r ∈ l))) := by
  rw [setD, setP_at r l _ isMap_empty]
  by_cases h : r ∈ l
  · simp [h]
  · simp [h, DataW.atKey]
def woL (l : List Int) (bs : List Bd) : List Bd := bs.filter (fun b => !decide (b.r ∈ l))
theorem woL_snoc (l : List Int) (bs : List Bd) (b : Bd) : woL l (bs ++ [b]) = if b.r ∈ l then woL l bs else woL l bs ++ [b] := by
  by_cases h : b.r ∈ l <;> simp [woL, h]
theorem woL_length (l : List Int) (bs : List Bd) : (woL l bs).length ≤ bs.length := List.length_filter_le _ _
/-- Without, errors and all. -/
def woF (N : Int) (bs : List Bd) (l : List Int) : (Int × List Bd) × Int := if check N bs = 0 then ((N, woL l bs), 0) else ((0, []), check N bs)
end Ln

def IsSet (w : World) (g n : Nat) (l : List Int) : Prop := w.ownsMap Try.prog 3 boElem g n (Ln.setD l)
theorem IsSet.look {w : World} {g n : Nat} {l : List Int} (h : IsSet w g n l) {r : Int} (hr : (Lit.int .i64 r).wf = true) :
    (Instr.lookup 92 (.map (some g)) (.int .i64 r) false).run Try.prog w = .ok (.bool (decide (r ∈ l))) w := by
  obtain ⟨v, ps, hrun, hv⟩ := World.ownsMap.lookup h keyedI Try.underlying92 (zeroBo w) (zd := .lit (.bool false)) (zp := []) rfl (keyOf_int_mk Try.underlying3 hr)
  rw [Ln.setD_at] at hv
  rw [hrun, boElem_inv hv]
theorem IsSet.below {w w' : World} {g n C : Nat} {l : List Int} (h : IsSet w g n l) (hb : Below C w w') (hg : g < C) : IsSet w' g n l := by
  obtain ⟨es, clock, h1, h2⟩ := h
  exact ⟨es, clock, (hb.block g hg).trans h1, h2⟩
theorem IsSet.alloc {w : World} {g n : Nat} {l : List Int} (h : IsSet w g n l) (o : Obj) : IsSet (w.alloc o) g n l := World.ownsMap.alloc h o
theorem IsSet.grown {w w' : World} {g n : Nat} {l : List Int} {row : Option Nat} (h : IsSet w g n l) (hg : w.grownBy w' row) (hne : some g ≠ row) : IsSet w' g n l := by
  obtain ⟨es, clock, h1, h2⟩ := h
  exact ⟨es, clock, (hg.block g (Array.getElem?_eq_some_iff.1 h1).1 hne).trans h1, h2⟩

theorem off_neN {w : World} {base e size : Nat} {v : Value} {n : Nat} {xs : List Value} (h : w.ownsRow base e size v n xs) {g : Nat} (hg : g < base) : some g ≠ v.ownBlock := fun e => by
  have := (h.lt g e.symm).1
  omega
theorem own_offN {w : World} {base e size : Nat} {v : Value} {n : Nat} {xs : List Value} (h : w.ownsRow base e size v n xs) {g : Nat} (hg : g < base) : v.ownBlock = none ∨ v.ownBlock ≠ some g := by
  rcases hb : v.ownBlock with _ | k
  · exact .inl rfl
  · refine .inr fun e => ?_
    have := (h.lt k hb).1
    cases e
    omega
theorem IsSet.far {w : World} {g n : Nat} {l : List Int} (h : IsSet w g n l) {p : Addr} (hp : g ≠ p.block) (u : Value) : IsSet (w.setCell p u) g n l := by
  obtain ⟨es, clock, h1, h2⟩ := h
  exact ⟨es, clock, (Below.heap_setCell w p u g hp).trans h1, h2⟩
theorem rec_of_check {N : Int} {bs : List Ln.Bd} (h : Ln.check N bs = 0) {k : Nat} (hk : k < bs.length) : 0 ≤ (Ln.bd bs k).r ∧ (Ln.bd bs k).r ≤ 1000000 := by
  unfold Ln.check at h
  split at h
  · cases h
  · split at h
    · cases h
    · split at h
      · rename_i h3
        exact (Ln.valid_iff.1 (List.all_eq_true.1 h3 _ (Ln.bd_mem hk))).2.2.2.2
      · cases h
theorem wf_small {r : Int} (h0 : 0 ≤ r) (h1 : r ≤ 1000000) : (Lit.int .i64 r).wf = true := by
  have e1 : IntKind.i64.min = -9223372036854775808 := rfl
  have e2 : IntKind.i64.max = 9223372036854775807 := rfl
  simp only [Lit.wf, Bool.and_eq_true, decide_eq_true_eq, e1, e2]
  omega

section
variable (N : Int) (A : Option Addr) (c : Nat) (bs : List Ln.Bd) (A2 : Option Addr) (c2 : Nat) (l : List Int) (w : World)

set_option maxRecDepth 100000 in
set_option maxHeartbeats 2000000 in
theorem without_any (hR : Rd w w.heap.size 4 A bs.length (bcells bs)) (hc : Ln.Lv bs) (hL : Rd w w.heap.size 1 A2 l.length (ints l)) (hll : l.length ≤ 1000000) (hlr : ∀ x ∈ l, (Lit.int .i64 x).wf = true) :
    Calls Try.prog 19 #[.agg #[.int .i64 N, .slice A bs.length c], .slice A2 l.length c2] w fun e w' => ∃ A' c', e = .returned (.tuple #[.agg #[.int .i64 (Ln.woF N bs l).1.1, .slice A' (Ln.woF N bs l).1.2.length c'], .int .i64 (Ln.woF N bs l).2]) ∧
      Rd w' w'.heap.size 4 A' (Ln.woF N bs l).1.2.length (bcells (Ln.woF N bs l).1.2) ∧ (∀ a, A' = some a → w.heap.size ≤ a.block) ∧ Below w.heap.size w w' := by
  obtain ⟨i0, hi0, hz0, hz1, hz2⟩ := info_parts info69'
  have hmm := @run_makeMap Try.prog
  obtain ⟨r, hr⟩ : ∃ r, Ln.woF N bs l = r := ⟨_, rfl⟩
  rw [hr]
  rw [Ln.woF] at hr
  have hB0 : Below w.heap.size w ((w.alloc (.cells #[.int .i64 N, .slice A bs.length c] 24)).alloc (.cells #[.int .i64 0, .slice none 0 0] 24)) := ((Below.refl _ _).alloc (Nat.le_refl _) _).alloc (by simp) _
  have hR1 := (hR.below hB0 (Nat.le_refl _)).more hB0.size
  have kS := (Bk.new w 24 #[.int .i64 N, .slice A bs.length c]).alloc (.cells #[.int .i64 0, .slice none 0 0] 24)
  have kT := Bk.new (w.alloc (.cells #[.int .i64 N, .slice A bs.length c] 24)) 24 #[.int .i64 0, .slice none 0 0]
  rw [World.size_alloc] at kT
  by_cases hs : Ln.check N bs = 0
  · rw [if_pos hs] at hr
    have hok := (Ln.ok_of_check hs).1
    have hlen := hok.len
    have HS := Lib.hid hs
    have HRR := Lib.hid hr
    have HLR := Lib.hid hlr
    clear hs hr hlr
    go_enter Try.func19, Try.ntmps19
    go_wp2_with (go_at_call 33; refine (check_any N A c bs _ hR1 hc.len).mono ?_; rw [HS.out]; rintro e w1 ⟨rfl, hb1⟩)
    have hB1 := hB0.trans (hb1.mono hB0.size)
    have kS1 := (kS.below hb1 (by simp; omega)).alloc (.map #[] 0)
    have kT1 := (kT.below hb1 (by simp)).alloc (.map #[] 0)
    have hM1 : IsSet (w1.alloc (.map #[] 0)) w1.heap.size 0 [] := World.ownsMap_made w1 Try.prog 3 boElem
    have hB2 := hB1.alloc hB1.size (.map #[] 0)
    have hz1' : w.heap.size + 2 ≤ w1.heap.size := by have := hb1.size; simp at this; omega
    obtain ⟨mb, hmb⟩ : ∃ mb, w1.heap.size = mb := ⟨_, rfl⟩
    rw [hmb] at hM1 hz1' ⊢
    clear hmb hb1 hB1
    go_loopw [22] (fun i wr => ∃ k : Nat, k ≤ l.length ∧ i = .int .i64 k ∧ IsSet wr mb k (l.take k) ∧ Bk wr w.heap.size 24 #[.int .i64 N, .slice A bs.length c] ∧ Bk wr (w.heap.size + 1) 24 #[.int .i64 0, .slice none 0 0] ∧ Below w.heap.size w wr)
      (fun i _ => l.length - (intOf i).toNat)
    case atStart => exact ⟨0, Nat.zero_le _, rfl, hM1, kS1, kT1, hB2⟩
    case round =>
      clear hM1 kS1 kT1 hB2 kS kT hB0 hR1
      obtain ⟨k, hk, rfl, hM, kS, kT, hB⟩ := hrel
      have hBs := hB.size
      have hMl := World.ownsMap.lt hM
      by_cases hlt : k < l.length
      · obtain ⟨bl, ol, rfl, hbl, el⟩ := Rd.one (hL.below hB (Nat.le_refl _)) hlt
        have htk : l.take (k + 1) = l.take k ++ [l[k]] := List.take_succ_eq_append_getElem hlt
        have hwf := HLR.out _ (List.getElem_mem hlt)
        obtain ⟨x, hx⟩ : ∃ x, l[k] = x := ⟨_, rfl⟩
        rw [hx] at el htk hwf
        have HTK := Lib.hid htk
        clear hx htk
        have hkey := keyOf_int_mk Try.underlying3 hwf
        go_wp2_with (at_mapUpdate; refine wpList_mapUpdate_own _ rfl _ _ _ 92 rfl 3 _ keyedI Try.underlying92 boElem mb k _ rfl hM (by unfold maxLen; omega) (.int .i64 x) (.bool true) (.int .i64 x) rfl rfl hkey (.lit (.bool true)) [] rfl ?_; intro w2 hM2 hg2)
        have kS2 := kS.grown hg2 (by simp; omega)
        have kT2 := kT.grown hg2 (by simp; omega)
        have hB2 := hB.grown hg2 hBs (fun j e => by cases e; omega)
        rw [← Ln.setD_snoc, ← HTK.out] at hM2
        have REL := Lib.hid (And.intro hM2 (And.intro kS2 (And.intro kT2 hB2)))
        clear hM2 kS2 kT2 hB2 hg2
        go_roundw
        case rel => exact ⟨k + 1, by omega, by go_num, REL.out⟩
        case measure => simp [intOf]; omega
      · obtain rfl : k = l.length := by omega
        rw [List.take_length] at hM
        have c0 := kS.cell 0
        have c1 := kS.cell 1
        have hSl := kS.lt
        simp only [List.getElem?_toArray, List.getElem?_cons_zero, List.getElem?_cons_succ] at c0 c1
        go_wp2_with fail
        have kL := Bk.new wr 24 #[.int .i64 N, .slice none 0 0]
        have hM2 := hM.alloc (.cells #[.int .i64 N, .slice none 0 0] 24)
        have kT2 := kT.alloc (.cells #[.int .i64 N, .slice none 0 0] 24)
        have hB2 := hB.alloc hBs (.cells #[.int .i64 N, .slice none 0 0] 24)
        obtain ⟨lb, hlb⟩ : ∃ lb, wr.heap.size = lb := ⟨_, rfl⟩
        have hTl := kT.lt
        rw [hlb] at kL hMl hBs hTl ⊢
        clear hM kS kT hB c0 c1 hSl hlb
        go_loopw [35] (fun i W => ∃ k : Nat, k ≤ bs.length ∧ i = .int .i64 k ∧ (∃ V, Bk W lb 24 #[.int .i64 N, V] ∧ W.ownsRow (lb + 1) 50 4 V (Ln.woL l (bs.take k)).length (bcells (Ln.woL l (bs.take k)))) ∧
            IsSet W mb l.length l ∧ Bk W (w.heap.size + 1) 24 #[.int .i64 0, .slice none 0 0] ∧ Below w.heap.size w W)
          (fun i _ => bs.length - (intOf i).toNat)
        case atStart => exact ⟨0, Nat.zero_le _, rfl, ⟨_, kL, ⟨rfl, .inl ⟨rfl, rfl⟩⟩⟩, hM2, kT2, hB2⟩
        case round =>
          clear kL hM2 kT2 hB2
          obtain ⟨k, hk, rfl, ⟨V, kL, hO⟩, hM, kT, hB⟩ := hrel
          have hBs2 := hB.size
          have hLl := kL.lt
          have hTl2 := kT.lt
          have hMl2 := World.ownsMap.lt hM
          have c0 := kL.cell 0
          have c1 := kL.cell 1
          have f1 := kL.frozen 1
          simp only [List.getElem?_toArray, List.getElem?_cons_zero, List.getElem?_cons_succ] at c0 c1
          by_cases hlt : k < bs.length
          · obtain ⟨b, off, rfl, hb, e0, e1, e2, e3⟩ := (hR.below hB (Nat.le_refl _)).bound hlt
            have htk : bs.take (k + 1) = bs.take k ++ [bs[k]] := List.take_succ_eq_append_getElem hlt
            have hsn := Ln.woL_snoc l (bs.take k) bs[k]
            rw [← htk] at hsn
            have hwl := Ln.woL_length l (bs.take k)
            rw [List.length_take] at hwl
            have hrec := rec_of_check HS.out hlt
            rw [Ln.bd_eq hlt] at hrec
            obtain ⟨⟨bf, bt, bm, br, bg⟩, hbd⟩ : ∃ x, bs[k] = x := ⟨_, rfl⟩
            rw [hbd] at e0 e1 e2 e3 hsn hrec
            obtain ⟨K0, hK0⟩ : ∃ K0, Ln.woL l (bs.take k) = K0 := ⟨_, rfl⟩
            rw [hK0] at hO hsn hwl
            have hlk := (hM.alloc (.cells #[.int .i64 bf, .int .i64 bt, .int .i64 bm, .int .i64 br] 50)).look (wf_small hrec.1 hrec.2)
            have HSN := Lib.hid hsn
            clear htk hsn hbd hK0 hrec
            rcases hin : decide (br ∈ l) with _ | _
            · rw [hin] at hlk
              have hO2 := (hO.alloc (.cells #[.int .i64 bf, .int .i64 bt, .int .i64 bm, .int .i64 br] 50)).alloc (.cells #[.int .i64 bf, .int .i64 bt, .int .i64 bm, .int .i64 br] 50)
              have hnw := heap_alloc_new (wr.alloc (.cells #[.int .i64 bf, .int .i64 bt, .int .i64 bm, .int .i64 br] 50)) (.cells #[.int .i64 bf, .int .i64 bt, .int .i64 bm, .int .i64 br] 50)
              rw [World.size_alloc] at hnw
              go_wp2_with (at_builtin; go_loud (refine wpList_append_lies _ rfl _ _ 22 rfl (lb + 1) 50 i0 _ 4 32 Try.underlying22 hi0 hz0 hz1 hz2 rfl (by omega) V _ _ rfl hO2 ⟨wr.heap.size + 1, 0, none⟩ 1 1 [.int .i64 bf, .int .i64 bt, .int .i64 bm, .int .i64 br] rfl rfl (World.news_of_block (cs := #[.int .i64 bf, .int .i64 bt, .int .i64 bm, .int .i64 br]) (t := 50) (fr := (0, 0)) hnw) (by simp [Value.oneCell']) (by omega) (by unfold maxLen; omega) (by omega) (by simp; omega) (wr.heap.size + 2) (by simp) ?_); intro gg cap w2 hown hgrow hat hlt2; have kL2 := (((kL.alloc (.cells #[.int .i64 bf, .int .i64 bt, .int .i64 bm, .int .i64 br] 50)).alloc (.cells #[.int .i64 bf, .int .i64 bt, .int .i64 bm, .int .i64 br] 50)).grown hgrow (off_neN hO2 (by omega))); have d0 := kL2.cell 1; have d1 := kL2.frozen 1; have hLl2 := kL2.lt)
              have hnin : ¬ br ∈ l := by simpa using hin
              have hMl3 := World.ownsMap.lt hM
              have hM2 := ((hM.alloc (.cells #[.int .i64 bf, .int .i64 bt, .int .i64 bm, .int .i64 br] 50)).alloc (.cells #[.int .i64 bf, .int .i64 bt, .int .i64 bm, .int .i64 br] 50)).grown hgrow (off_neN hO2 (by omega))
              have kT2 := ((kT.alloc (.cells #[.int .i64 bf, .int .i64 bt, .int .i64 bm, .int .i64 br] 50)).alloc (.cells #[.int .i64 bf, .int .i64 bt, .int .i64 bm, .int .i64 br] 50)).grown hgrow (off_neN hO2 (by omega))
              have hB2 := ((hB.alloc hBs2 (.cells #[.int .i64 bf, .int .i64 bt, .int .i64 bm, .int .i64 br] 50)).alloc (by simp; omega) (.cells #[.int .i64 bf, .int .i64 bt, .int .i64 bm, .int .i64 br] 50)).grown hgrow (by simp; omega) (fun j e => by have := (hO2.lt j e).1; omega)
              have hfin := And.intro (kL2.set 1 (.slice (some ⟨gg, 0, none⟩) (K0.length + 1) cap)) (And.intro (hown.kept (grown_setCell w2 ⟨lb, 1, none⟩ (.slice (some ⟨gg, 0, none⟩) (K0.length + 1) cap)) (own_offN hown (Nat.lt_succ_self _))) (And.intro (hM2.far (p := ⟨lb, 1, none⟩) (by simp; omega) (.slice (some ⟨gg, 0, none⟩) (K0.length + 1) cap)) (And.intro (kT2.far (p := ⟨lb, 1, none⟩) (by simp; omega) (.slice (some ⟨gg, 0, none⟩) (K0.length + 1) cap)) (hB2.setCell (p := ⟨lb, 1, none⟩) (by simp; omega) (.slice (some ⟨gg, 0, none⟩) (K0.length + 1) cap)))))
              have REL := Lib.hid hfin
              clear hfin hM2 kT2 hB2 hgrow hown kL2 d0 d1
              go_roundw
              case rel =>
                have hsn := HSN.out
                rw [if_neg hnin] at hsn
                refine ⟨k + 1, by omega, by go_num, ⟨_, REL.out.1, ?_⟩, REL.out.2.2⟩
                rw [hsn, List.length_append, bcells_append]
                exact REL.out.2.1
              case measure => simp [intOf]; omega
            · rw [hin] at hlk
              have hyin : br ∈ l := by simpa using hin
              go_wp2_with fail
              go_roundw
              case rel =>
                have hsn := HSN.out
                rw [if_pos hyin] at hsn
                exact ⟨k + 1, by omega, by go_num, ⟨V, kL.alloc _, by rw [hsn]; exact hO.alloc _⟩, hM.alloc _, kT.alloc _, hB.alloc hBs2 _⟩
              case measure => simp [intOf]; omega
          · obtain rfl : k = bs.length := by omega
            rw [List.take_length] at hO
            obtain ⟨A', c', hV, hrd, hnew⟩ := ownB_rd hO (bcells_length _)
            subst hV
            have d0 := kT.cell 0
            have d1 := kT.cell 1
            have g0 := kT.frozen 0
            have g1 := kT.frozen 1
            simp only [List.getElem?_toArray, List.getElem?_cons_zero, List.getElem?_cons_succ] at d0 d1
            have k5 := (kT.set 0 (.int .i64 N)).set 1 (.slice A' (Ln.woL l bs).length c')
            have hB5 := (hB.setCell (p := ⟨w.heap.size + 1, 0, none⟩) (by simp) (.int .i64 N)).setCell (p := ⟨w.heap.size + 1, 1, none⟩) (by simp) (.slice A' (Ln.woL l bs).length c')
            have hrd5 : Rd ((wr.setCell ⟨w.heap.size + 1, 0, none⟩ (.int .i64 N)).setCell ⟨w.heap.size + 1, 1, none⟩ (.slice A' (Ln.woL l bs).length c')) wr.heap.size 4 A' (Ln.woL l bs).length (bcells (Ln.woL l bs)) := by
              refine ⟨hrd.1, fun hn => ?_⟩
              obtain ⟨b, off, e, hb, hc'⟩ := hrd.2 hn
              have hbn := hnew _ e
              simp only at hbn
              refine ⟨b, off, e, hb, fun j hj => ?_⟩
              rw [World.cell?_of_block (Below.heap_setCell _ _ _ _ (by simp; omega)), World.cell?_of_block (Below.heap_setCell _ _ _ _ (by simp; omega))]
              exact hc' j hj
            have K5 := Lib.hid (And.intro k5 (And.intro hrd5 hB5))
            clear k5 hrd5 hB5
            go_wp2_with fail
            have hr := HRR.out
            subst hr
            refine bodyPost_ret (v := .tuple #[.agg #[.int .i64 N, .slice A' (Ln.woL l bs).length c'], .int .i64 0]) (results_cell_row_tmp rfl _ _ (w.heap.size + 1) 24 _ (0, 0) _ _ rfl rfl K5.out.1 Try.underlying24 rfl (by kernel_rfl)) rfl ⟨A', c', rfl, K5.out.2.1.more (by rw [size_setCell, size_setCell]; exact Nat.le_refl _), fun a e => (by have := hnew a e; omega), K5.out.2.2⟩
  · rw [if_neg hs] at hr
    have hne : (Ln.check N bs != 0) = true := by simp [hs]
    have HRR := Lib.hid hr
    clear hs hr
    go_enter Try.func19, Try.ntmps19
    go_wp2_with (go_at_call 33; refine (check_any N A c bs _ hR1 hc.len).mono ?_; rintro e w1 ⟨rfl, hb1⟩; have k1 := kT.below hb1 (by simp); have c0 := k1.cell 0; have c1 := k1.cell 1; have f0 := k1.frozen 0; have f1 := k1.frozen 1)
    have k5 := (k1.set 0 (.int .i64 0)).set 1 (.slice none 0 0)
    have hB5 := ((hB0.trans (hb1.mono hB0.size)).setCell (p := ⟨w.heap.size + 1, 0, none⟩) (by simp) (.int .i64 0)).setCell (p := ⟨w.heap.size + 1, 1, none⟩) (by simp) (.slice none 0 0)
    have hr := HRR.out
    subst hr
    refine bodyPost_ret (v := .tuple #[.agg #[.int .i64 0, .slice none 0 0], .int .i64 (Ln.check N bs)]) (results_cell_row_tmp rfl _ _ (w.heap.size + 1) 24 _ (0, 0) _ _ rfl rfl k5 Try.underlying24 rfl (by kernel_rfl)) rfl ⟨none, 0, rfl, Rd.nil _ _ _ _, fun a e => (by cases e), hB5⟩
end

end Go.Proofs.Yteiaofgkmgllcaa
