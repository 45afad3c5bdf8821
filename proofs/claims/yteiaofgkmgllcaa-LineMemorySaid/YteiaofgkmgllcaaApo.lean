/-
  append of one value; two slices that grow by turns; flags.
-/
import Derived.Test.YteiaofgkmgllcaaSome
set_option linter.unusedVariables false
set_option linter.unusedSimpArgs false
namespace Go.Proofs.Yteiaofgkmgllcaa
open Go.RowKit

theorem info4 : (Try.prog.info? 4).map (fun i => (i.zero, i.size, i.bytes)) = some (some (.bool false), 1, 1) := by kernel_rfl
theorem grown_of_alloc {w w' : World} {o : Obj} {row : Option Nat} (h : (w.alloc o).grownBy w' row) : w.grownBy w' row :=
  ⟨h.os, h.tape, h.output, Nat.le_trans (by simp) h.size, fun k hk hne => (h.block k (by simp; omega) hne).trans (Below.heap_alloc w o k hk)⟩

/-- append of one value that lies in a new block of its own. -/
theorem wpList_app1 {P : Program} {ops : Array Oper} {rest : List Oper} {o : Oper} {a : Act} {Q : Exit → Act → World → Prop} (hgd : o.guard = none) (s x : Operand) (t : TypeId)
    (ho : o.op = .call { callee := .builtin .append, args := #[s, x], argTypes := #[t, t] })
    (e : TypeId) (i : TypeInfo) (z : Value) (bytes : Nat) (ht : P.underlying t = some (.slice e)) (hi : P.info? e = some i) (hz : i.zero = some z) (hsize : i.size = 1) (hby : i.bytes = bytes) (hzs : z.cells.size = 1)
    (base : Nat) (v : Value) (n : Nat) (xs : List Value) (u : Value) (w : World) (hs : a.eval s = v) (hown : w.ownsRow base e 1 v n xs) (hx : a.eval x = .slice (some ⟨w.heap.size, 0, none⟩) 1 1) (h1 : u.oneCell' = true)
    (h63 : n + 1 ≤ maxLen) (hbytes : (n + 1) * bytes ≤ 140737488355328) (hbase : base ≤ w.heap.size)
    (h : ∀ g cap w', w'.ownsRow base e 1 (.slice (some ⟨g, 0, none⟩) (n + 1) cap) (n + 1) (xs ++ [u]) → w.grownBy w' v.ownBlock → (v.ownBlock = some g ∨ w.heap.size ≤ g) → g < w'.heap.size → wpList P ops Q rest (a.put o.dst (.slice (some ⟨g, 0, none⟩) (n + 1) cap)) w') :
    wpList P ops Q (o :: rest) a (w.alloc (.cells #[u] e)) :=
  wpList_append_lies (w.alloc (.cells #[u] e)) hgd s x t ho base e i z 1 bytes ht hi hz hsize hby hzs (by omega) v n xs hs (hown.alloc _) ⟨w.heap.size, 0, none⟩ 1 1 [u] hx rfl (World.news_of_block (cs := #[u]) (t := e) (fr := (0, 0)) (heap_alloc_new _ _)) (by simpa using h1) (by omega) h63 hbytes (by simp; omega) (w.heap.size + 1) (by simp)
    fun g cap w' h2 h3 h4 h5 => h g cap w' h2 (grown_of_alloc h3) (h4.imp id (fun e => by omega)) h5

theorem two_own {w w' : World} {base gg : Nat} {e : TypeId} {size : Nat} {G O : Value} {n : Nat} {xs : List Value} (hG : w.ownsRow base e size G n xs) (hap : G.ownBlock = none ∨ G.ownBlock ≠ O.ownBlock) (h1 : w.grownBy w' O.ownBlock)
    (hat : O.ownBlock = some gg ∨ w.heap.size ≤ gg) : w'.ownsRow base e size G n xs ∧ (G.ownBlock = none ∨ G.ownBlock ≠ some gg) := by
  refine ⟨hG.kept h1 hap, ?_⟩
  rcases hb : G.ownBlock with _ | g
  · exact .inl rfl
  · refine .inr ?_
    rcases hat with e | e
    · rcases hap with h | h
      · rw [hb] at h
        cases h
      · rw [← hb, ← e]
        exact h
    · have := (hG.lt g hb).2
      simp only [ne_eq, Option.some.injEq]
      omega

theorem own_read {w : World} {base : Nat} {e : TypeId} {size : Nat} {v : Value} {n : Nat} {xs : List Value} (h : w.ownsRow base e size v n xs) :
    ∃ A c, v = .slice A n c ∧ Rd w w.heap.size size A n xs := by
  rcases h.2 with ⟨rfl, h0⟩ | ⟨g, cap, cur, rfl, _, hg, _⟩
  · refine ⟨none, 0, by rw [h0], h.1, fun hn => absurd hn (by omega)⟩
  · refine ⟨_, _, rfl, h.1, fun hn => ⟨g, 0, rfl, (Array.getElem?_eq_some_iff.1 hg).1, fun j hj => ?_⟩⟩
    rw [Nat.zero_add]
    exact h.cellAt j hj

theorem own_none {w : World} (base : Nat) (e : TypeId) (size : Nat) : w.ownsRow base e size (.slice none 0 0) 0 [] := ⟨by simp, .inl ⟨rfl, rfl⟩⟩

theorem run_slice_reach (g n : Nat) (hn : n ≤ 128) (w : World) : (Instr.sliceAt 89 (.pointer (some ⟨g, 0, none⟩)) none (some (.int .i64 (n : Int))) none).run Try.prog w = .ok (.slice (some ⟨g, 0, none⟩) n 128) w := by
  have hal : Try.prog.arrayLen 89 = 128 := by kernel_rfl
  have hso : (sizeOf (Try.prog.elem 89)).run Try.prog w = .ok 1 w := by kernel_rfl
  rw [run_sliceAt_array_h w 89 ⟨g, 0, none⟩ (by kernel_rfl) .i64 n (by omega) (by rw [hal]; omega), hso, hal]
  simp [slicedAt, Addr.add, Result.andThen]
theorem grown_setRow (w : World) (g : Nat) (cs : Array Value) : w.grownBy (w.setRow g cs) (some g) :=
  ⟨rfl, rfl, rfl, by rw [size_setRow]; exact Nat.le_refl _, fun k _ hk => by
    simp only [World.setRow, Array.getElem?_modify]
    rw [if_neg (fun e => hk (by rw [e]))]⟩
theorem own_new {w : World} {base : Nat} {e : TypeId} {size : Nat} {v : Value} {n : Nat} {xs : List Value} (h : w.ownsRow base e size v n xs) : v.ownBlock = none ∨ v.ownBlock ≠ some w.heap.size := by
  rcases hb : v.ownBlock with _ | g
  · exact .inl rfl
  · exact .inr fun e => by have := (h.lt g hb).2; cases e; omega

def flags (l : List Bool) : List Value := l.map .bool
theorem flags_length (l : List Bool) : (flags l).length = l.length := by simp [flags]
theorem flags_snoc (l : List Bool) (x : Bool) : flags l ++ [.bool x] = flags (l ++ [x]) := by simp [flags]
theorem ints_snoc (l : List Int) (x : Int) : ints l ++ [.int .i64 x] = ints (l ++ [x]) := by simp [ints]
theorem Rd.flag {w : World} {B : Nat} {A : Option Addr} {l : List Bool} (h : Rd w B 1 A l.length (flags l)) {k : Nat} (hk : k < l.length) :
    ∃ b off, A = some ⟨b, off, none⟩ ∧ b < B ∧ w.cell? ⟨b, off + k, none⟩ = some (.bool l[k]) := by
  obtain ⟨b, off, e, hb, hc⟩ := h.2 (by omega)
  refine ⟨b, off, e, hb, ?_⟩
  rw [hc k (by omega)]
  simp [flags, hk]

end Go.Proofs.Yteiaofgkmgllcaa
