/-
  slices.Concat of two lists of bounds.
-/
import Derived.Laws.AppendOwnNone
import Derived.Test.YteiaofgkmgllcaaShelf
import Derived.Test.YteiaofgkmgllcaaSome
set_option linter.unusedVariables false
set_option linter.unusedSimpArgs false
namespace Go.Proofs.Yteiaofgkmgllcaa
open Go.RowKit Go.Shelf

theorem wpList_append_none {P : Program} {w : World} {ops : Array Oper} {rest : List Oper} {o : Oper} {a : Act} {Q : Exit → Act → World → Prop} (hgd : o.guard = none) (s x : Operand) (t : TypeId)
    (ho : o.op = .call { callee := .builtin .append, args := #[s, x], argTypes := #[t, t] })
    (base : Nat) (e : TypeId) (i : TypeInfo) (size : Nat) (ht : P.underlying t = some (.slice e)) (hi : P.info? e = some i)
    (v : Value) (n : Nat) (xs : List Value) (hs : a.eval s = v) (hown : w.ownsRow base e size v n xs) (A : Option Addr) (c : Nat) (hA : A = none) (hx : a.eval x = .slice A 0 c)
    (h : wpList P ops Q rest (a.put o.dst v) w) : wpList P ops Q (o :: rest) a w := by
  refine wpList_plain hgd fun K hK => ?_
  subst hA
  have hrun : (Builtin.append_ #[t, t] o.type #[v, .slice none 0 c]).run P w = .ok v w := by
    rcases hown.2 with ⟨rfl, rfl⟩ | ⟨g, cap, cur, rfl, _, _, hnc, _⟩
    · simp [Builtin.append_, run_underlying ht, sizeOf, typeInfo, hi, Builtin.lenOf, Builtin.firstCells]
    · simp [Builtin.append_, run_underlying ht, sizeOf, typeInfo, hi, Builtin.lenOf, Builtin.firstCells, hnc, storeCells]
  unfold Oper.wp
  simp [execOp, ho, resolve, invoke, builtin, hs, hx, hrun, Result.andThen]
  exact hK _ _ h

theorem info69' : (Try.prog.info? 50).map (fun i => (i.zero, i.size, i.bytes)) = some (some (.agg #[.int .i64 0, .int .i64 0, .int .i64 0, .int .i64 0]), 4, 32) := by kernel_rfl

theorem grow_any (n : Nat) (hn : n ≤ 1000000) (w : World) :
    Calls Try.prog 77 #[.slice none 0 0, .int .i64 n] w fun e w' => ∃ v, e = .returned v ∧ w'.ownsRow w.heap.size 50 4 v 0 [] ∧ Below w.heap.size w w' := by
  obtain ⟨i0, hi0, hz0, hz1, hz2⟩ := info_parts info69'
  by_cases h0 : n = 0
  · subst h0
    refine (Any8.slices_Grow_room Try.laysGrow none 0 0 0 w (by omega) (by omega) (by omega) (by omega)).mono ?_
    rintro e w' ⟨rfl, rfl⟩
    exact ⟨_, rfl, ⟨rfl, .inl ⟨rfl, rfl⟩⟩, Below.refl _ _⟩
  · refine (Any8.slices_Grow_grow Try.laysGrow i0 (.agg #[.int .i64 0, .int .i64 0, .int .i64 0, .int .i64 0]) hi0 hz0 (by omega) none 0 0 n [] w (by omega) (by omega) (by rw [hz2]; omega) (by omega) (by simp) (fun _ => rfl) (fun a h => by cases h)).mono ?_
    rintro e w' ⟨rfl, rfl⟩
    simp only [Nat.zero_add, Nat.sub_zero]
    have hge := grownCap_ge w n 0 50
    have hle : grownCap w n 0 50 ≤ maxLen := grownCap_le_maxLen w n 0 50 (by unfold maxLen; omega)
    have hz4 : (Value.agg #[.int .i64 0, .int .i64 0, .int .i64 0, .int .i64 0]).cells.size = 4 := rfl
    refine ⟨_, rfl, World.ownsRow_made w.drew _ _ (Nat.le_refl _) hle ?_, ((Below.refl _ w).drew).alloc (Nat.le_refl _) _⟩
    simp only [Array.size_append, size_zeroCells, hz4, List.size_toArray, List.length_nil]
    show 0 + n * 4 + (grownCap w n 0 50 - n) * 4 = grownCap w n 0 50 * 4
    omega

/-- append of what a slice reads as, whether it has memory or not. -/
theorem wpList_append_rd {P : Program} {w : World} {ops : Array Oper} {rest : List Oper} {o : Oper} {a : Act} {Q : Exit → Act → World → Prop} (hgd : o.guard = none) (s x : Operand) (t : TypeId)
    (ho : o.op = .call { callee := .builtin .append, args := #[s, x], argTypes := #[t, t] })
    (base : Nat) (e : TypeId) (i : TypeInfo) (z : Value) (size bytes : Nat) (ht : P.underlying t = some (.slice e)) (hi : P.info? e = some i) (hz : i.zero = some z)
    (hsize : i.size = size) (hby : i.bytes = bytes) (hzs : z.cells.size = size) (hsz : 0 < size)
    (v : Value) (n : Nat) (xs : List Value) (hs : a.eval s = v) (hown : w.ownsRow base e size v n xs)
    (A : Option Addr) (m c : Nat) (B : Nat) (news : List Value) (hx : a.eval x = .slice A m c) (hrd : Rd w B size A m news) (h1 : ∀ u ∈ news, u.oneCell' = true)
    (h63 : n + m ≤ maxLen) (hbytes : (n + m) * bytes ≤ 140737488355328) (hbase : base ≤ w.heap.size)
    (h : ∀ v' w', w'.ownsRow base e size v' (n + m) (xs ++ news) → w.grownBy w' v.ownBlock → (v'.ownBlock = v.ownBlock ∨ v'.ownBlock = some w.heap.size) → wpList P ops Q rest (a.put o.dst v') w') :
    wpList P ops Q (o :: rest) a w := by
  by_cases hm : m = 0
  · subst hm
    have hn : news = [] := List.eq_nil_of_length_eq_zero (by have := hrd.1; omega)
    subst hn
    rcases A with _ | ad
    · refine wpList_append_none hgd s x t ho base e i size ht hi v n xs hs hown none c rfl hx ?_
      exact h v w (by simpa using hown) ⟨rfl, rfl, rfl, Nat.le_refl _, fun _ _ _ => rfl⟩ (.inl rfl)
    · exact wpList_append_own_at w hgd s x t ho base e i z size bytes ht hi hz hsize hby hzs hsz v n xs hs hown ad 0 c [] hx (by simp) (fun j u hj => by simp at hj) h1 h63 hbytes hbase (fun v' w' h2 h3 _ h5 => h v' w' h2 h3 h5)
  · obtain ⟨b, off, rfl, hb, hc⟩ := hrd.2 (by omega)
    refine wpList_append_own_at w hgd s x t ho base e i z size bytes ht hi hz hsize hby hzs hsz v n xs hs hown ⟨b, off, none⟩ m c news hx hrd.1 (fun j u hj => ?_) h1 h63 hbytes hbase (fun v' w' h2 h3 _ h5 => h v' w' h2 h3 h5)
    have hjl : j < news.length := (List.getElem?_eq_some_iff.1 hj).1
    rw [hrd.1] at hjl
    rw [show (⟨b, off, none⟩ : Addr).add j = ⟨b, off + j, none⟩ from by unfold Addr.add; split <;> simp_all, hc j hjl, hj]

theorem bcells_one (bs : List Ln.Bd) : ∀ u ∈ bcells bs, u.oneCell' = true := by
  intro u hu
  obtain ⟨b, _, hb⟩ := List.mem_flatMap.1 hu
  simp only [bcell, List.mem_cons, List.not_mem_nil, or_false] at hb
  rcases hb with rfl | rfl | rfl | rfl <;> rfl
theorem bcells_append (bs cs : List Ln.Bd) : bcells (bs ++ cs) = bcells bs ++ bcells cs := by simp [bcells]

theorem ownB_rd {w : World} {base e size : Nat} {v : Value} {n : Nat} {xs : List Value} (h : w.ownsRow base e size v n xs) (hl : xs.length = n * size) :
    ∃ A c, v = .slice A n c ∧ Rd w w.heap.size size A n xs ∧ ∀ a, A = some a → base ≤ a.block := by
  rcases h.2 with ⟨rfl, h0⟩ | ⟨g, cap, cur, rfl, hb, hg, _⟩
  · refine ⟨none, 0, by rw [h0], ⟨hl, fun hn => absurd hn (by omega)⟩, fun a e => by cases e⟩
  · refine ⟨_, _, rfl, ⟨hl, fun hn => ⟨g, 0, rfl, (Array.getElem?_eq_some_iff.1 hg).1, fun j hj => ?_⟩⟩, fun a e => by cases e; exact hb⟩
    rw [Nat.zero_add]
    exact h.cellAt j (by omega)

set_option maxRecDepth 100000 in
set_option maxHeartbeats 1000000 in
theorem concat_any (bs cs : List Ln.Bd) (A1 A2 : Option Addr) (c1 c2 b : Nat) (w : World) (hb : Bk w b 22 #[.slice A1 bs.length c1, .slice A2 cs.length c2])
    (h1 : Rd w w.heap.size 4 A1 bs.length (bcells bs)) (h2 : Rd w w.heap.size 4 A2 cs.length (bcells cs)) (hl : bs.length + cs.length ≤ 1000000) :
    Calls Try.prog 51 #[.slice (some ⟨b, 0, none⟩) 2 2] w fun e w' => ∃ A' c', e = .returned (.slice A' (bs ++ cs).length c') ∧ Rd w' w'.heap.size 4 A' (bs ++ cs).length (bcells (bs ++ cs)) ∧ (∀ a, A' = some a → w.heap.size ≤ a.block) ∧ Below w.heap.size w w' := by
  obtain ⟨i0, hi0, hz0, hz1, hz2⟩ := info_parts info69'
  have d0 := hb.cell 0
  have d1 := hb.cell 1
  simp only [List.getElem?_toArray, List.getElem?_cons_zero, List.getElem?_cons_succ] at d0 d1
  have hbl := hb.lt
  have hbn : (0 : Int) ≤ (bs.length : Int) := Int.natCast_nonneg _
  have hcn : (0 : Int) ≤ (cs.length : Int) := Int.natCast_nonneg _
  go_enter Try.func51, Try.ntmps51
  go_wp2_with fail
  go_loopw [3, 11] (fun s i wr => wr = w ∧ ((s = .int .i64 0 ∧ i = .int .i64 0) ∨ (s = .int .i64 bs.length ∧ i = .int .i64 1) ∨ (s = .int .i64 ((bs.length : Int) + cs.length) ∧ i = .int .i64 2)))
    (fun _ i _ => 2 - (intOf i).toNat)
  case atStart => exact ⟨rfl, .inl ⟨rfl, rfl⟩⟩
  case round =>
    obtain ⟨hw, hrel⟩ := hrel
    have hw := hw.symm
    subst hw
    rcases hrel with ⟨rfl, rfl⟩ | ⟨rfl, rfl⟩ | ⟨rfl, rfl⟩
    · go_wp2_with fail
      go_roundw
      case rel => exact ⟨trivial, .inr (.inl ⟨by go_num, by go_num⟩)⟩
      case measure => simp [intOf]
    · go_wp2_with fail
      go_roundw
      case rel => exact ⟨trivial, .inr (.inr ⟨by go_num, by go_num⟩)⟩
      case measure => simp [intOf]
    · have hsum : ((bs.length : Int) + cs.length) = ((bs.length + cs.length : Nat) : Int) := by omega
      rw [hsum]
      clear hsum
      go_wp2_with (first | (go_at_call 77; refine (grow_any (bs.length + cs.length) (by omega) _).mono ?_; rintro e w1 ⟨v, rfl, hv, hb1⟩))
      clear d0 d1
      have kB1 := hb.below hb1 hbl
      have hb0 := hb1.size
      have hR1 := h1.below hb1 (Nat.le_refl _)
      have hR2 := h2.below hb1 (Nat.le_refl _)
      go_wp2_with fail
      go_loopw [6, 27] (fun V i W => Below w.heap.size w W ∧ ((i = .int .i64 0 ∧ W.ownsRow w.heap.size 50 4 V 0 []) ∨ (i = .int .i64 1 ∧ W.ownsRow w.heap.size 50 4 V (0 + bs.length) ([] ++ bcells bs)) ∨ (i = .int .i64 2 ∧ W.ownsRow w.heap.size 50 4 V (0 + bs.length + cs.length) ([] ++ bcells bs ++ bcells cs))))
        (fun _ i _ => 2 - (intOf i).toNat)
      case atStart => exact ⟨hb1, .inl ⟨rfl, hv⟩⟩
      case round =>
        clear hv hb1 kB1 hb0 hR1 hR2
        obtain ⟨hB, hrel⟩ := hrel
        have kB := hb.below hB hbl
        have d0 := kB.cell 0
        have d1 := kB.cell 1
        have hBs := hB.size
        simp only [List.getElem?_toArray, List.getElem?_cons_zero, List.getElem?_cons_succ] at d0 d1
        have hR1 := h1.below hB (Nat.le_refl _)
        have hR2 := h2.below hB (Nat.le_refl _)
        rcases hrel with ⟨rfl, hv⟩ | ⟨rfl, hv⟩ | ⟨rfl, hv⟩
        · go_wp2_with (at_builtin; go_loud (refine wpList_append_rd rfl _ _ 22 rfl w.heap.size 50 i0 _ 4 32 Try.underlying22 hi0 hz0 hz1 hz2 rfl (by omega) u6 _ _ rfl hv A1 bs.length c1 _ _ rfl hR1 (bcells_one _) (by unfold maxLen; omega) (by omega) hBs ?_); intro v' W2 hv2 hg2 hat2)
          have hB2 := hB.grown hg2 hBs (fun j e => (hv.lt j e).1)
          have REL := Lib.hid (And.intro hB2 hv2)
          clear hv2 hg2 hB2
          go_roundw
          case rel => exact ⟨REL.out.1, .inr (.inl ⟨by go_num, REL.out.2⟩)⟩
          case measure => simp [intOf]
        · go_wp2_with (at_builtin; go_loud (refine wpList_append_rd rfl _ _ 22 rfl w.heap.size 50 i0 _ 4 32 Try.underlying22 hi0 hz0 hz1 hz2 rfl (by omega) u6 _ _ rfl hv A2 cs.length c2 _ _ rfl hR2 (bcells_one _) (by unfold maxLen; omega) (by omega) hBs ?_); intro v' W2 hv2 hg2 hat2)
          have hB2 := hB.grown hg2 hBs (fun j e => (hv.lt j e).1)
          have REL := Lib.hid (And.intro hB2 hv2)
          clear hv2 hg2 hB2
          go_roundw
          case rel => exact ⟨REL.out.1, .inr (.inr ⟨by go_num, REL.out.2⟩)⟩
          case measure => simp [intOf]
        · rw [List.nil_append, ← bcells_append, Nat.zero_add, ← List.length_append] at hv
          obtain ⟨A', c', hv6, hrd, hnew⟩ := ownB_rd hv (bcells_length _)
          subst hv6
          go_wp2_with fail
          go_ret
          exact ⟨A', c', rfl, hrd, hnew, hB⟩

end Go.Proofs.Yteiaofgkmgllcaa
