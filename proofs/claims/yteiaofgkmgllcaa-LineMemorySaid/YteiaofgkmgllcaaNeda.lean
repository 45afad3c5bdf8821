/-
  Needless's memory: a net whose lists are changed.
-/
import Derived.Test.YteiaofgkmgllcaaBack

import Derived.Test.YteiaofgkmgllcaaBlame
set_option linter.unusedVariables false
set_option linter.unusedSimpArgs false
namespace Go.Proofs.Yteiaofgkmgllcaa
open Go.RowKit Go.Shelf Go.Sort

theorem rd_grown {W W' : World} {row : Option Nat} {B B' size n : Nat} {A : Option Addr} {xs : List Value} (h : Rd W B size A n xs) (hg : W.grownBy W' row) (hr : ∀ r, row = some r → ∃ o : Obj, W.heap[r]? = some o ∧ o.isCells = false) (hB : B ≤ B') : Rd W' B' size A n xs := by
  refine ⟨h.1, fun hn => ?_⟩
  obtain ⟨b, off, e, hb, hc⟩ := h.2 hn
  refine ⟨b, off, e, by omega, fun j hj => ?_⟩
  have hx : j < xs.length := by rw [h.1]; exact hj
  have hcj := hc j hj
  rw [List.getElem?_eq_getElem hx] at hcj
  obtain ⟨cs, e', fr, hb', _⟩ := cells_of_cell? hcj
  have hne : some b ≠ row := fun er => by
    obtain ⟨o, ho, hcl⟩ := hr b er.symm
    rw [hb'] at ho
    cases ho
    cases hcl
  rw [World.cell?_of_block (hg.block b (Array.getElem?_eq_some_iff.1 hb').1 hne), hcj, List.getElem?_eq_getElem hx]
theorem isNet_grown {W W' : World} {row : Option Nat} {nb N : Nat} {bs : List Ln.Bd} {A : Option Addr} {c : Nat} {fr : List Value} (h : IsNet W W.heap.size nb N bs A c fr) (hg : W.grownBy W' row) (hr : ∀ r, row = some r → ∃ o : Obj, W.heap[r]? = some o ∧ o.isCells = false) : IsNet W' W'.heap.size nb N bs A c fr := by
  have hne : some nb ≠ row := fun er => by
    obtain ⟨o, ho, hcl⟩ := hr nb er.symm
    rw [show W.heap[nb]? = _ from h.blk] at ho
    cases ho
    cases hcl
  exact ⟨Nat.lt_of_lt_of_le h.lt hg.size, (hg.block nb h.lt hne).trans h.blk, h.len, rd_grown h.bounds hg hr hg.size, fun p v hv => by
    obtain ⟨A', c', e, hrd⟩ := h.rows p v hv
    exact ⟨A', c', e, rd_grown hrd hg hr hg.size⟩⟩
theorem isNet_below {W W' : World} {nb N : Nat} {bs : List Ln.Bd} {A : Option Addr} {c : Nat} {fr : List Value} (h : IsNet W W.heap.size nb N bs A c fr) (hb : RowKit.Below W.heap.size W W') : IsNet W' W'.heap.size nb N bs A c fr :=
  isNet_grown h (grown_below hb) (fun r e => by cases e)
theorem rd_set {W : World} {B size n g i : Nat} {A : Option Addr} {xs : List Value} {u : Value} (h : Rd W B size A n xs) (hne : ∀ a, A = some a → a.block ≠ g) : Rd (W.setCell ⟨g, i, none⟩ u) B size A n xs := by
  refine ⟨h.1, fun hn => ?_⟩
  obtain ⟨b, off, e, hb, hc⟩ := h.2 hn
  refine ⟨b, off, e, hb, fun j hj => ?_⟩
  rw [World.cell?_of_block (Below.heap_setCell _ _ _ _ (by have := hne _ e; simpa using this))]
  exact hc j hj
theorem isNet_set {W : World} {nb N f : Nat} {bs cs : List Ln.Bd} {A A2 : Option Addr} {c c2 : Nat} {fr : List Value} (h : IsNet W W.heap.size nb N bs A c fr) (hl : cs.length = bs.length) (hcc : bcells cs = bcells bs) (hix : ∀ q, q ≠ f → Ln.idx cs q = Ln.idx bs q) (hf : f < 128)
    (hap : ∀ (p : Nat) (v : Value) (g : Nat), fr[p]? = some v → v.ownBlock = some g → nb < g) (hA : ∀ a, A = some a → a.block ≠ nb) (hR : Rd W W.heap.size 1 A2 (Ln.idx cs f).length (nlist (Ln.idx cs f))) (hA2 : ∀ a, A2 = some a → a.block ≠ nb) :
    IsNet (W.setCell ⟨nb, 2 + f, none⟩ (.slice A2 (Ln.idx cs f).length c2)) (W.setCell ⟨nb, 2 + f, none⟩ (.slice A2 (Ln.idx cs f).length c2)).heap.size nb N cs A c (fr.set f (.slice A2 (Ln.idx cs f).length c2)) := by
  rw [size_setCell]
  refine ⟨h.lt, ?_, by rw [List.length_set]; exact h.len, ?_, fun p v hv => ?_⟩
  · have := h.blk.set (2 + f) (.slice A2 (Ln.idx cs f).length c2)
    rw [ncells_set] at this
    rw [hl]
    exact this
  · rw [hl, hcc]
    exact rd_set h.bounds hA
  · rw [List.getElem?_set] at hv
    by_cases e : f = p
    · subst e
      rw [if_pos rfl, if_pos (by rw [h.len]; exact hf)] at hv
      cases hv
      exact ⟨A2, c2, rfl, rd_set hR hA2⟩
    · rw [if_neg e] at hv
      obtain ⟨A', c', rfl, hrd⟩ := h.rows p v hv
      rw [hix p (fun e' => e e'.symm)]
      refine ⟨A', c', rfl, rd_set hrd fun a ha => ?_⟩
      have := hap p _ a.block hv (by rw [ha]; rfl)
      omega

/-- Clone of a list of indices. -/
theorem clone_any (A : Option Addr) (c : Nat) (l : List Nat) (w : World) (hR : Rd w w.heap.size 1 A l.length (nlist l)) (hl : l.length ≤ 1000000) :
    Calls Try.prog 60 #[.slice A l.length c] w fun e w' => ∃ A' c', e = .returned (.slice A' l.length c') ∧ l.length ≤ c' ∧ Fresh w' w.heap.size A' (Ln.zl l) ∧ RowKit.Below w.heap.size w w' := by
  have own : ∀ (w' : World) (v : Value), w'.ownsRow w.heap.size 3 1 v l.length (ints (Ln.zl l)) → ∃ A' c', v = .slice A' l.length c' ∧ l.length ≤ c' ∧ Fresh w' w.heap.size A' (Ln.zl l) := fun w' v h => by
    rcases h.2 with ⟨rfl, h0⟩ | ⟨g, cap, cur, rfl, hb, hg, hcap, _⟩
    · exact ⟨none, 0, by rw [h0], by omega, .inl ⟨rfl, by rw [List.eq_nil_of_length_eq_zero h0]; rfl⟩⟩
    · exact ⟨_, cap, rfl, hcap, .inr ⟨g, rfl, hb, (Array.getElem?_eq_some_iff.1 hg).1, own_holds h (Ln.zl_length l)⟩⟩
  rcases A with _ | a
  · have h0 : l.length = 0 := by
      by_cases h : 0 < l.length
      · obtain ⟨b, off, e, _⟩ := hR.2 h
        cases e
      · omega
    refine (Any.slices_Clone_int_nil Try.laysClone l.length c w).mono ?_
    rintro e w' ⟨rfl, rfl⟩
    exact ⟨none, 0, by rw [h0], by omega, .inl ⟨rfl, by rw [List.eq_nil_of_length_eq_zero h0]; rfl⟩, Below.refl _ _⟩
  · by_cases h : 0 < l.length
    · obtain ⟨b, off, e, hb, hcell⟩ := hR.2 h
      cases e
      refine (Any.slices_Clone_int Try.laysClone b off l.length c (Ln.zl l) w (by rw [Ln.zl_length]; exact Nat.le_refl _) (by omega) (fun j hj => ?_)).mono ?_
      · rw [Ln.zl_length] at hj
        rw [hcell j (by omega)]
        simp [nlist, Ln.zl, hj]
      · rintro e w' ⟨v', rfl, hown, _, hb'⟩
        rw [List.take_of_length_le (by rw [Ln.zl_length]; exact Nat.le_refl _)] at hown
        obtain ⟨A', c', rfl, h1, h2⟩ := own w' v' hown
        exact ⟨A', c', rfl, h1, h2, hb'⟩
    · have h0 : l = [] := List.eq_nil_of_length_eq_zero (by omega)
      subst h0
      refine (Any.slices_Clone_int_zero Try.laysClone a c w).mono ?_
      rintro e w' ⟨v', rfl, hown, _, hb'⟩
      obtain ⟨A', c', rfl, h1, h2⟩ := own w' v' hown
      exact ⟨A', c', rfl, h1, h2, hb'⟩

set_option maxHeartbeats 1000000 in
theorem isIndex_any (x i : Int) (ib : Nat) (w : World) (hI : Bk w ib 3 #[.int .i64 i]) :
    Calls Try.prog 61 #[.int .i64 x, .pointer (some ⟨ib, 0, none⟩)] w fun e w' => e = .returned (.bool (x == i)) ∧ RowKit.Below w.heap.size w w' := by
  have c0 := hI.cell 0
  simp only [List.getElem?_toArray, List.getElem?_cons_zero] at c0
  go_enter Try.func61, Try.ntmps61
  go_wp2
  go_ret
  exact ⟨rfl, Below.refl _ _⟩

/-- A list of indices, one taken out in its own memory. -/
theorem takeOut_any (A : Option Addr) (c : Nat) (l : List Nat) (i ib base : Nat) (w : World) (hF : Fresh w base A (Ln.zl l)) (hcap : l.length ≤ c) (hl : l.length ≤ 1000000) (hI : Bk w ib 3 #[.int .i64 (i : Int)]) (hib : ib < base) (hbw : base ≤ w.heap.size) :
    Calls Try.prog 59 #[.slice A l.length c, .func (.func 61) #[] #[.pointer (some ⟨ib, 0, none⟩)]] w fun e w' =>
      ∃ A' c', e = .returned (.slice A' (l.filter fun j => !(j == i)).length c') ∧ Rd w' w'.heap.size 1 A' (l.filter fun j => !(j == i)).length (nlist (l.filter fun j => !(j == i))) ∧ (∀ a, A' = some a → base ≤ a.block) ∧ RowKit.Below base w w' := by
  rcases hF with ⟨rfl, h0⟩ | ⟨g, rfl, hg1, hg2, hH⟩
  · have : l = [] := List.eq_nil_of_length_eq_zero (by rw [← Ln.zl_length, h0]; rfl)
    subst this
    refine (delete_nil_any c _ w).mono ?_
    rintro e w' ⟨rfl, rfl⟩
    exact ⟨none, c, rfl, Rd.nil _ _ _ _, fun a e => (by cases e), Below.refl _ _⟩
  · have hz := Ln.zl_length l
    have hd := delete_needless g c (Ln.zl l).toArray (fun x => x == (i : Int)) ib w hH hg2 (by simp [hz]; omega) (by simp [hz]; exact hcap) (fun j hj W hk => isIndex_any _ _ ib W (hk.bk hI (by omega) (by omega)))
    simp only [List.size_toArray, hz] at hd
    refine hd.mono ?_
    rintro e w' ⟨rfl, hH', hk⟩
    have hfl : ((Ln.zl l).filter fun x => !(x == (i : Int))) = Ln.zl (l.filter fun j => !(j == i)) := by
      rw [Ln.zl, List.filter_map, Ln.zl]
      congr 1
      refine List.filter_congr fun j _ => ?_
      simp only [Function.comp_apply]
      by_cases e : j = i
      · subst e
        simp
      · have e' : (j : Int) ≠ (i : Int) := by omega
        rw [beq_eq_false_iff_ne.2 e', beq_eq_false_iff_ne.2 e]
    rw [hfl] at hH' ⊢
    rw [Ln.zl_length]
    refine ⟨_, _, rfl, ?_, fun a e => by cases e; exact hg1, hk.below (by omega) (fun j hj e => by omega)⟩
    have := holds_rd (r := []) (by simpa using hH') (Nat.lt_of_lt_of_le hg2 hk.size)
    rw [Ln.zl_length, ← nlist_ints] at this
    exact this

end Go.Proofs.Yteiaofgkmgllcaa
