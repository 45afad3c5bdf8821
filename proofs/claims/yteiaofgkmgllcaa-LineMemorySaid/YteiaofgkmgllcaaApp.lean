/-
  append of what a slice reads as, in a region that draws its order; a slice apart from a store.
-/
import Derived.Test.YteiaofgkmgllcaaConcat
import Derived.Test.YteiaofgkmgllcaaCheck
import Derived.Test.YteiaofgkmgllcaaRefA
import Derived.Deep.RegionHeld3
import Derived.Maps.AppendAt
set_option linter.unusedVariables false
set_option linter.unusedSimpArgs false
namespace Go.Proofs.Yteiaofgkmgllcaa
open Go.RowKit Go.Shelf

/-- append of what a slice reads as, whether it has memory or not: in a region that draws its order. -/
theorem step_append_rd {P : Program} {w : World} {ops : Array Oper} {o : Oper} {a : Act} {K : Act → World → Prop} {Q : Exit → Act → World → Prop} {E : Prop} (hgd : o.guard = none) (s x : Operand) (t : TypeId)
    (ho : o.op = .call { callee := .builtin .append, args := #[s, x], argTypes := #[t, t] })
    (base : Nat) (e : TypeId) (i : TypeInfo) (z : Value) (size bytes : Nat) (ht : P.underlying t = some (.slice e)) (hi : P.info? e = some i) (hz : i.zero = some z)
    (hsize : i.size = size) (hby : i.bytes = bytes) (hzs : z.cells.size = size) (hsz : 0 < size)
    (v : Value) (n : Nat) (xs : List Value) (hs : a.eval s = v) (hown : w.ownsRow base e size v n xs)
    (A : Option Addr) (m c : Nat) (B : Nat) (news : List Value) (hx : a.eval x = .slice A m c) (hrd : Rd w B size A m news) (h1 : ∀ u ∈ news, u.oneCell' = true)
    (h63 : n + m ≤ maxLen) (hbytes : (n + m) * bytes ≤ 140737488355328) (hbase : base ≤ w.heap.size)
    (h : ∀ v' w', w'.ownsRow base e size v' (n + m) (xs ++ news) → w.grownBy w' v.ownBlock → (v'.ownBlock = v.ownBlock ∨ v'.ownBlock = some w.heap.size) → K (a.put o.dst v') w') :
    if Region.wanted o (yielded ops a.tmps) = true then Oper.wp P o a w K Q else E := by
  have hw : Region.wanted o (yielded ops a.tmps) = true := by simp [Region.wanted, hgd]
  rw [if_pos hw]
  have main : ∀ (ad : Addr), A = some ad → (∀ j u, news[j]? = some u → w.cell? (ad.add j) = some u) → Oper.wp P o a w K Q := fun ad hA hn => by
    subst hA
    obtain ⟨v', w', hr, h2, h3, h4, h5⟩ := run_append_own_at (P := P) w base t o.type e i z size bytes ht hi hz hsize hby hzs hsz v n xs hown ad m c news hrd.1 hn h1 h63 hbytes hbase
    unfold Oper.wp execOp
    simp only [ho, resolve, invoke, builtin, Sem.run_bind, Sem.run_pure, Result.andThen_ok, List.map_toArray, List.map_cons, List.map_nil, hs, hx, hr]
    exact h v' w' h2 h3 h5
  by_cases hm : m = 0
  · subst hm
    have hn : news = [] := List.eq_nil_of_length_eq_zero (by have := hrd.1; omega)
    subst hn
    rcases hA : A with _ | ad
    · subst hA
      have hrun : (Builtin.append_ #[t, t] o.type #[v, .slice none 0 c]).run P w = .ok v w := by
        rcases hown.2 with ⟨rfl, rfl⟩ | ⟨g, cap, cur, rfl, _, _, hnc, _⟩
        · simp [Builtin.append_, run_underlying ht, sizeOf, typeInfo, hi, Builtin.lenOf, Builtin.firstCells]
        · simp [Builtin.append_, run_underlying ht, sizeOf, typeInfo, hi, Builtin.lenOf, Builtin.firstCells, hnc, storeCells]
      have hk := h v w (by simpa using hown) ⟨rfl, rfl, rfl, Nat.le_refl _, fun _ _ _ => rfl⟩ (.inl rfl)
      unfold Oper.wp
      simp [execOp, ho, resolve, invoke, builtin, hs, hx, hrun, Result.andThen]
      exact hk
    · exact main ad hA (fun j u hj => by simp at hj)
  · obtain ⟨b, off, hA, hb, hc⟩ := hrd.2 (by omega)
    refine main _ hA (fun j u hj => ?_)
    have hjl : j < news.length := (List.getElem?_eq_some_iff.1 hj).1
    rw [hrd.1] at hjl
    rw [show (⟨b, off, none⟩ : Addr).add j = ⟨b, off + j, none⟩ from by unfold Addr.add; split <;> simp_all, hc j hjl, hj]

theorem Rd.off {w : World} {B size : Nat} {A : Option Addr} {n : Nat} {xs : List Value} {p : Addr} {v : Value} (h : Rd w B size A n xs) (hne : ∀ a, A = some a → p.block ≠ a.block) : Rd (w.setCell p v) B size A n xs := by
  refine ⟨h.1, fun hn => ?_⟩
  obtain ⟨b, off, e, hb, hc⟩ := h.2 hn
  exact ⟨b, off, e, hb, fun j hj => (World.cell?_setCell_far w p ⟨b, off + j, none⟩ v (show p.block ≠ b from hne _ e)).trans (hc j hj)⟩

/-- Two stores into a block leave two others. -/
theorem keep3 {W : World} {z b1 b2 : Nat} {v0 v1 v2 x y : Value} (h1 : z ≠ b1) (h2 : z ≠ b2) (e0 : W.cell? ⟨b1, 0, none⟩ = some v0) (e1 : W.cell? ⟨b1, 1, none⟩ = some v1) (e2 : W.cell? ⟨b2, 1, none⟩ = some v2) :
    (((W.setCell ⟨z, 0, none⟩ x).setCell ⟨z, 1, none⟩ y).cell? ⟨b1, 0, none⟩ = some v0 ∧ ((W.setCell ⟨z, 0, none⟩ x).setCell ⟨z, 1, none⟩ y).cell? ⟨b1, 1, none⟩ = some v1) ∧ ((W.setCell ⟨z, 0, none⟩ x).setCell ⟨z, 1, none⟩ y).cell? ⟨b2, 1, none⟩ = some v2 := by
  refine ⟨⟨?_, ?_⟩, ?_⟩
  · rw [World.cell?_setCell_far _ _ _ _ h1, World.cell?_setCell_far _ _ _ _ h1]; exact e0
  · rw [World.cell?_setCell_far _ _ _ _ h1, World.cell?_setCell_far _ _ _ _ h1]; exact e1
  · rw [World.cell?_setCell_far _ _ _ _ h2, World.cell?_setCell_far _ _ _ _ h2]; exact e2

end Go.Proofs.Yteiaofgkmgllcaa
