/-
  Nets, and their edges.
-/
import Derived.Test.YteiaofgkmgllcaaBase
set_option linter.unusedVariables false
set_option linter.unusedSimpArgs false
namespace Go.Proofs.Yteiaofgkmgllcaa
open Go.RowKit

def nlist (l : List Nat) : List Value := l.map fun (i : Nat) => Value.int .i64 (i : Int)
theorem nlist_length (l : List Nat) : (nlist l).length = l.length := by simp [nlist]

/-- The cells of a net: the number of points, the bounds, a slice for each point. -/
def ncells (N : Int) (sl : Value) (fr : List Value) : Array Value := ((.int .i64 N) :: sl :: fr).toArray
theorem ncells_0 (N : Int) (sl : Value) (fr : List Value) : (ncells N sl fr)[0]? = some (.int .i64 N) := rfl
theorem ncells_1 (N : Int) (sl : Value) (fr : List Value) : (ncells N sl fr)[1]? = some sl := rfl
theorem ncells_from (N : Int) (sl : Value) (fr : List Value) (p : Nat) : (ncells N sl fr)[2 + p]? = fr[p]? := by
  unfold ncells
  rw [Nat.add_comm]
  simp
theorem ncells_set (N : Int) (sl : Value) (fr : List Value) (p : Nat) (v : Value) : (ncells N sl fr).setIfInBounds (2 + p) v = ncells N sl (fr.set p v) := by
  unfold ncells
  rw [Nat.add_comm]
  simp

theorem ncells_set0 (N M : Int) (sl : Value) (fr : List Value) : (ncells N sl fr).setIfInBounds 0 (.int .i64 M) = ncells M sl fr := by simp [ncells]
theorem ncells_set1 (N : Int) (sl sl' : Value) (fr : List Value) : (ncells N sl fr).setIfInBounds 1 sl' = ncells N sl' fr := by simp [ncells]
def nils : List Value := List.replicate 128 (.slice none 0 0)
theorem nils_length : nils.length = 128 := by simp [nils]
theorem zero122 : Try.zeroCells104 = ncells 0 (.slice none 0 0) nils := by kernel_rfl

/-- The slices of a net that is being made: each owns its row, no two share one. -/
structure FRows (w : World) (base : Nat) (fr : List Value) (l : Nat → List Nat) : Prop where
  len : fr.length = 128
  own : ∀ (p : Nat) (v : Value), fr[p]? = some v → w.ownsRow base 3 1 v (l p).length (nlist (l p))
  apart : ∀ (p q : Nat) (v u : Value), p ≠ q → fr[p]? = some v → fr[q]? = some u → v.ownBlock = none ∨ v.ownBlock ≠ u.ownBlock

theorem FRows.kept {w w' : World} {base : Nat} {fr : List Value} {l : Nat → List Nat} (h : FRows w base fr l) {row : Option Nat} (hg : w.grownBy w' row) (hr : ∀ k, row = some k → k < base) : FRows w' base fr l :=
  ⟨h.len, fun p v hv => (h.own p v hv).kept hg (by
    rcases hb : v.ownBlock with _ | k
    · exact .inl rfl
    · exact .inr fun e => by
        have h1 := hr k e.symm
        have h2 := ((h.own p v hv).lt k hb).1
        omega), h.apart⟩

theorem FRows.step {w w' : World} {base : Nat} {fr : List Value} {bs : List Ln.Bd} {k p : Nat} (h : FRows w base fr (Ln.idxk bs k)) (hp : (Ln.bd bs k).f = p) (hlive : (Ln.bd bs k).gone = false) (hlt : p < 128) {v v' : Value} (hv : fr[p]? = some v)
    (ho : w'.ownsRow base 3 1 v' ((Ln.idxk bs k p).length + 1) (nlist (Ln.idxk bs k p) ++ [.int .i64 k])) (hg : w.grownBy w' v.ownBlock) {H : Nat} (hb : v'.ownBlock = v.ownBlock ∨ v'.ownBlock = some H) (hH : w.heap.size ≤ H) :
    FRows w' base (fr.set p v') (Ln.idxk bs (k + 1)) := by
  have hl := h.len
  refine ⟨by simp [h.len], fun q u hu => ?_, fun q r a b hqr ha hb' => ?_⟩
  · rw [List.getElem?_set] at hu
    by_cases hq : p = q
    · subst hq
      rw [if_pos rfl, if_pos (by omega)] at hu
      cases hu
      rw [Ln.idxk_hit hp hlive]
      simpa [nlist] using ho
    · rw [if_neg hq] at hu
      rw [Ln.idxk_miss (fun e => hq (by rw [hp] at e; exact_mod_cast e))]
      refine (h.own q u hu).kept hg ?_
      rcases h.apart q p u v (fun e => hq e.symm) hu hv with h1 | h1
      · exact .inl h1
      · exact .inr h1
  · have old : ∀ (q : Nat) (u : Value), fr[q]? = some u → u.ownBlock = none ∨ u.ownBlock ≠ some H := fun q u hu => by
      rcases hb2 : u.ownBlock with _ | g
      · exact .inl rfl
      · refine .inr fun e => ?_
        cases e
        have := ((h.own q u hu).lt _ hb2).2
        omega
    rw [List.getElem?_set] at ha hb'
    by_cases h1 : p = q
    · subst h1
      rw [if_pos rfl, if_pos (by omega)] at ha
      rw [if_neg hqr] at hb'
      cases ha
      rcases hb with e | e
      · rw [e]
        exact h.apart p r v b hqr hv hb'
      · rw [e]
        rcases old r b hb' with e' | e'
        · rw [e']
          exact .inr (by simp)
        · exact .inr (fun x => e' x.symm)
    · rw [if_neg h1] at ha
      by_cases h2 : p = r
      · subst h2
        rw [if_pos rfl, if_pos (by omega)] at hb'
        cases hb'
        rcases hb with e | e
        · rw [e]
          exact h.apart q p a v hqr ha hv
        · rw [e]
          exact old q a ha
      · rw [if_neg h2] at hb'
        exact h.apart q r a b hqr ha hb'

/-- A net in memory, all of its blocks below B. -/
structure IsNet (w : World) (B nb : Nat) (N : Nat) (bs : List Ln.Bd) (A : Option Addr) (c : Nat) (fr : List Value) : Prop where
  lt : nb < B
  blk : Bk w nb 104 (ncells N (.slice A bs.length c) fr)
  len : fr.length = 128
  bounds : Rd w B 4 A bs.length (bcells bs)
  rows : ∀ (p : Nat) (v : Value), fr[p]? = some v → ∃ A' c', v = .slice A' (Ln.idx bs p).length c' ∧ Rd w B 1 A' (Ln.idx bs p).length (nlist (Ln.idx bs p))

theorem IsNet.below {w w' : World} {B nb N : Nat} {bs : List Ln.Bd} {A : Option Addr} {c : Nat} {fr : List Value} (h : IsNet w B nb N bs A c fr) {C : Nat} (hb : Below C w w') (hC : B ≤ C) : IsNet w' B nb N bs A c fr :=
  ⟨h.lt, h.blk.below hb (Nat.lt_of_lt_of_le h.lt hC), h.len, h.bounds.below hb hC, fun p v hv => by
    obtain ⟨A', c', e, hr⟩ := h.rows p v hv
    exact ⟨A', c', e, hr.below hb hC⟩⟩

theorem FRows.rd {w : World} {base : Nat} {fr : List Value} {bs : List Ln.Bd} (h : FRows w base fr (Ln.idx bs)) (p : Nat) (v : Value) (hv : fr[p]? = some v) :
    ∃ A' c', v = .slice A' (Ln.idx bs p).length c' ∧ Rd w w.heap.size 1 A' (Ln.idx bs p).length (nlist (Ln.idx bs p)) := by
  have ho := h.own p v hv
  rcases ho.2 with ⟨rfl, h0⟩ | ⟨g, cap, cur, rfl, _, hg, _⟩
  · refine ⟨none, 0, by rw [h0], ho.1, fun hn => absurd hn (by omega)⟩
  · refine ⟨_, _, rfl, ho.1, fun hn => ⟨g, 0, rfl, (Array.getElem?_eq_some_iff.1 hg).1, fun j hj => ?_⟩⟩
    rw [Nat.zero_add]
    exact ho.cellAt j hj

theorem net_step {w wr w1 : World} {N : Int} {sl v : Value} {fr : List Value} {bs : List Ln.Bd} {k p gg cap : Nat} {o1 o2 : Obj} (hB : Below w.heap.size w wr) (hK : Bk wr (w.heap.size + 1) 104 (ncells N sl fr)) (hF : FRows wr (w.heap.size + 2) fr (Ln.idxk bs k))
    (hp : (Ln.bd bs k).f = p) (hlive : (Ln.bd bs k).gone = false) (hp128 : p < 128) (hv : fr[p]? = some v) (hown1 : w1.ownsRow (w.heap.size + 2) 3 1 (.slice (some ⟨gg, 0, none⟩) ((Ln.idxk bs k p).length + 1) cap) ((Ln.idxk bs k p).length + 1) (nlist (Ln.idxk bs k p) ++ [.int .i64 k]))
    (hgrow : ((wr.alloc o1).alloc o2).drew.grownBy w1 v.ownBlock) (hat : v.ownBlock = some gg ∨ gg = wr.heap.size + 2) :
    Below w.heap.size w (w1.setCell ⟨w.heap.size + 1, 2 + p, none⟩ (.slice (some ⟨gg, 0, none⟩) ((Ln.idxk bs k p).length + 1) cap)) ∧
    ∃ fr', Bk (w1.setCell ⟨w.heap.size + 1, 2 + p, none⟩ (.slice (some ⟨gg, 0, none⟩) ((Ln.idxk bs k p).length + 1) cap)) (w.heap.size + 1) 104 (ncells N sl fr') ∧
      FRows (w1.setCell ⟨w.heap.size + 1, 2 + p, none⟩ (.slice (some ⟨gg, 0, none⟩) ((Ln.idxk bs k p).length + 1) cap)) (w.heap.size + 2) fr' (Ln.idxk bs (k + 1)) := by
  have hsz := hK.lt
  have hown := hF.own p v hv
  have g1 := (World.grownBy_alloc wr o1 none).trans (World.grownBy_alloc (wr.alloc o1) o2 none)
  have g0 : wr.grownBy ((wr.alloc o1).alloc o2).drew none := ⟨g1.os, g1.tape, g1.output, g1.size, g1.block⟩
  have hF2 : FRows ((wr.alloc o1).alloc o2).drew (w.heap.size + 2) fr (Ln.idxk bs k) := hF.kept g0 (fun k e => by cases e)
  have hK2 : Bk ((wr.alloc o1).alloc o2).drew (w.heap.size + 1) 104 (ncells N sl fr) := (hK.alloc o1).alloc o2
  have hn2 : some (w.heap.size + 1) ≠ v.ownBlock := fun e => by have := (hown.lt _ e.symm).1; omega
  have hK3 : Bk w1 (w.heap.size + 1) 104 (ncells N sl fr) := (hgrow.block _ hK2.lt hn2).trans hK2
  have hF3 := hF2.step (v' := .slice (some ⟨gg, 0, none⟩) ((Ln.idxk bs k p).length + 1) cap) hp hlive hp128 hv hown1 hgrow (H := wr.heap.size + 2) (by
    rcases hat with h | h
    · exact .inl h.symm
    · exact .inr (by rw [← h]; rfl)) (by simp)
  have hB2 : Below w.heap.size w ((wr.alloc o1).alloc o2).drew := ((hB.alloc hB.size o1).alloc (by have := hB.size; simp; omega) o2).drew
  have hB3 : Below w.heap.size w w1 := hB2.grown hgrow hB2.size (fun k e => by have := (hown.lt _ e).1; omega)
  have hK4 := hK3.set (2 + p) (.slice (some ⟨gg, 0, none⟩) ((Ln.idxk bs k p).length + 1) cap)
  rw [ncells_set] at hK4
  refine ⟨hB3.setCell (by simp) _, _, hK4, ?_⟩
  refine hF3.kept (row := some (w.heap.size + 1)) ⟨rfl, rfl, rfl, by simp [World.setCell], fun k _ hk => Below.heap_setCell _ _ _ k (fun e => hk (by rw [e]))⟩ (fun k e => by cases e; omega)

theorem info3 : (Try.prog.info? 3).map (fun i => (i.zero, i.size, i.bytes)) = some (some (.int .i64 0), 1, 8) := by kernel_rfl

set_option maxRecDepth 100000 in
set_option maxHeartbeats 1000000 in
theorem netOf_new (N : Nat) (A : Option Addr) (c : Nat) (bs : List Ln.Bd) (hok : Ln.Ok N bs) (hlv : Ln.Lv bs) (w : World) (hR : Rd w w.heap.size 4 A bs.length (bcells bs)) :
    Calls Try.prog 34 #[.agg #[.int .i64 N, .slice A bs.length c]] w fun e w' => ∃ nb fr, e = .returned (.pointer (some ⟨nb, 0, none⟩)) ∧ IsNet w' w'.heap.size nb N bs A c fr ∧ Below w.heap.size w w' ∧ w.heap.size ≤ nb ∧ ∀ (p : Nat) (v : Value) (g : Nat), fr[p]? = some v → v.ownBlock = some g → nb < g := by
  obtain ⟨i0, hi0, hz0, hz1, hz2⟩ := info_parts info3
  go_enter Try.func34, Try.ntmps34
  go_wp2_with fail
  rw [zero122, ncells_set0, ncells_set1]
  have hB0 : Below w.heap.size w ((w.alloc (.cells #[.int .i64 N, .slice A bs.length c] 24)).alloc (.cells (ncells N (.slice A bs.length c) nils) 104)) := ((Below.refl _ _).alloc (Nat.le_refl _) _).alloc (by simp) _
  have k0 := Bk.new (w.alloc (.cells #[.int .i64 N, .slice A bs.length c] 24)) 104 (ncells N (.slice A bs.length c) nils)
  rw [World.size_alloc] at k0
  have r0 : FRows ((w.alloc (.cells #[.int .i64 N, .slice A bs.length c] 24)).alloc (.cells (ncells N (.slice A bs.length c) nils) 104)) (w.heap.size + 2) nils (Ln.idxk bs 0) := by
    have hn : ∀ (p : Nat) (v : Value), nils[p]? = some v → v = .slice none 0 0 := fun p v hv => by
      have := List.mem_of_getElem? hv
      simp [nils] at this
      exact this
    refine ⟨nils_length, fun p v hv => ?_, fun p q v u _ hv _ => ?_⟩
    · rw [hn p v hv]
      exact ⟨rfl, .inl ⟨rfl, rfl⟩⟩
    · rw [hn p v hv]
      exact .inl rfl
  have hlen := hok.len
  go_loopw [15] (fun i wr => ∃ k : Nat, k ≤ bs.length ∧ i = .int .i64 k ∧ Below w.heap.size w wr ∧ ∃ fr, Bk wr (w.heap.size + 1) 104 (ncells N (.slice A bs.length c) fr) ∧ FRows wr (w.heap.size + 2) fr (Ln.idxk bs k))
    (fun i _ => bs.length - (intOf i).toNat)
  case atStart => exact ⟨0, Nat.zero_le _, rfl, hB0, _, k0, r0⟩
  case round =>
    obtain ⟨k, hk, rfl, hB, fr, hK, hF⟩ := hrel
    by_cases hlt : k < bs.length
    · obtain ⟨b, off, rfl, hb, e0, e1, e2, e3⟩ := (hR.below hB (Nat.le_refl _)).bound hlt
      have hbd := Ln.bd_eq hlt
      have hof := hok.each _ (Ln.bd_mem hlt)
      rw [← hbd] at e0 e1 e2 e3
      obtain ⟨p, hp⟩ : ∃ p : Nat, (Ln.bd bs k).f = p := ⟨(Ln.bd bs k).f.toNat, by omega⟩
      rw [hp] at e0 hof
      have hp128 : p < 128 := by have := hok.top; omega
      obtain ⟨v, hv⟩ : ∃ v, fr[p]? = some v := ⟨fr[p]'(by rw [hF.len]; exact hp128), List.getElem?_eq_getElem _⟩
      have hown := hF.own p v hv
      have hcv := (hK.cell (2 + p)).trans ((ncells_from _ _ _ _).trans hv)
      have hfz := hK.frozen (2 + p)
      have hsz := hK.lt
      have hil := Ln.idxk_length bs k p
      have HP := Lib.hid hp
      have HV := Lib.hid hv
      have HBD := Lib.hid hbd
      clear hp hv hbd
      have n1 : v.ownBlock ≠ some wr.heap.size := fun e => by have := (hown.lt _ e).2; omega
      have n2 : v.ownBlock ≠ some (w.heap.size + 1) := fun e => by have := (hown.lt _ e).1; omega
      have hfz1 := fun o => fz_alloc (w := wr) (a := ⟨w.heap.size + 1, 2 + p, none⟩) o hfz (by simpa using hsz)
      have hfz2 := fun o o' => fz_alloc (w := wr.alloc o) (a := ⟨w.heap.size + 1, 2 + p, none⟩) o' (hfz1 o) (by simp; omega)
      have hcw2 : ∀ o o', ((wr.alloc o).alloc o').cell? ⟨w.heap.size + 1, 2 + p, none⟩ = some v := fun o o' => by
        rw [World.cell?_of_block (Below.heap_alloc _ _ _ (by simp; omega)), World.cell?_of_block (Below.heap_alloc _ _ _ (by simp; omega))]
        exact hcv
      have hdw2 : ∀ x y z u o', ((wr.alloc (.cells #[x, y, z, u] 50)).alloc o').cell? ⟨wr.heap.size, 0, none⟩ = some x := fun x y z u o' => by
        rw [World.cell?_of_block (Below.heap_alloc _ _ _ (by simp))]
        exact (Bk.new wr _ _).cell 0
      have hi0' : (0 : Int) ≤ (p : Int) := Int.natCast_nonneg _
      have hi1' : (p : Int) < 128 := by omega
      go_wp2_with fail
      go_region_law (refine step_append_lies _ (by rfl) _ _ _ (by rfl) (w.heap.size + 2) 3 i0 _ 1 8 Try.underlying25 hi0 hz0 hz1 hz2 rfl (by omega) v _ _ (by rfl) (((hown.alloc _).alloc _).drew) ⟨wr.heap.size + 1, 0, none⟩ 1 1 [.int .i64 k] (by rfl) (by rfl) (World.news_of_block (cs := #[.int .i64 k]) (t := 3) (fr := (0, 0)) (heap_alloc2_new _ _ _)) (by simp [Value.oneCell']) (by omega) (by unfold maxLen; omega) (by omega) (by simp; omega) (wr.heap.size + 2) (by simp) ?_; intro gg cap w1 hown1 hgrow hat hlt1; have cw1 := (hgrow.cell_far ⟨w.heap.size + 1, 2 + p, none⟩ (by simp; omega) (Ne.symm n2)).trans (hcw2 _ _); have fw1 := (World.frozen?_of_block (hgrow.block (w.heap.size + 1) (by simp; omega) (Ne.symm n2))).trans (hfz2 _ _); have dw1 := (hgrow.cell_far ⟨wr.heap.size, 0, none⟩ (by simp; omega) (Ne.symm n1)).trans (hdw2 _ _ _ _ _))
      all_goals
        have hst := net_step (cap := cap) hB hK hF HP.out (hlv.at_ hlt) hp128 HV.out hown1 hgrow hat
        have HS := Lib.hid hst
        clear hst
        go_wp2_with fail
        go_roundw
        case rel => exact ⟨k + 1, by omega, by go_num, HS.out.1, HS.out.2⟩
        case measure => simp [intOf]; omega
    · obtain rfl : k = bs.length := by omega
      go_wp2_with fail
      go_ret
      refine ⟨w.heap.size + 1, fr, rfl, ⟨hK.lt, hK, hF.len, (hR.below hB (Nat.le_refl _)).more hB.size, fun p v hv => hF.rd p v hv⟩, hB, by omega, fun p v g hv hg => by have := ((hF.own p v hv).lt g hg).1; omega⟩

theorem netOf_any (N : Nat) (A : Option Addr) (c : Nat) (bs : List Ln.Bd) (hok : Ln.Ok N bs) (hlv : Ln.Lv bs) (w : World) (hR : Rd w w.heap.size 4 A bs.length (bcells bs)) :
    Calls Try.prog 34 #[.agg #[.int .i64 N, .slice A bs.length c]] w fun e w' => ∃ nb fr, e = .returned (.pointer (some ⟨nb, 0, none⟩)) ∧ IsNet w' w'.heap.size nb N bs A c fr ∧ Below w.heap.size w w' :=
  (netOf_new N A c bs hok hlv w hR).mono fun _ _ ⟨nb, fr, h1, h2, h3, _⟩ => ⟨nb, fr, h1, h2, h3⟩
end Go.Proofs.Yteiaofgkmgllcaa

namespace Go.Proofs.Yteiaofgkmgllcaa
open Go.RowKit Go.Shelf

attribute [local go_sem] Oper.semAt_some

set_option maxHeartbeats 1000000 in
theorem edges_in (n : Nat) (nb : Nat) (p : Int) (w : World) :
    CallsIn Fence.wide n Try.prog 91 #[.pointer (some ⟨nb, 0, none⟩), .int .i64 p] w fun e w' => e = .returned (.func (.func 96) #[] #[.pointer (some ⟨w.heap.size, 0, none⟩), .pointer (some ⟨w.heap.size + 1, 0, none⟩)]) ∧
      w' = (w.alloc (.cells #[.pointer (some ⟨nb, 0, none⟩)] 64)).alloc (.cells #[.int .i64 p] 3) := by
  refine callsIn_of_wp Try.func91 rfl trivial ?_ rfl
  simp only [Try.ntmps91, List.size_toArray, List.length_cons, List.length_nil, Nat.reduceAdd, Nat.reduceSub, Array.replicate_succ, Array.replicate_zero, List.push_toArray, List.append_toArray, List.nil_append, List.cons_append]
  gi_wp2
  go_ret
  exact ⟨rfl, rfl⟩

/-- An index of a bound that leads from p. -/
abbrev Ix (bs : List Ln.Bd) (p : Nat) : Type := { i : Nat // i ∈ Ln.idx bs p }
def ixv {bs : List Ln.Bd} {p : Nat} (i : Ix bs p) : Array Value := #[.int .i64 (i.1 : Int), .agg #[.int .i64 (Ln.bd bs i.1).f, .int .i64 (Ln.bd bs i.1).t, .int .i64 (Ln.bd bs i.1).m, .int .i64 (Ln.bd bs i.1).r]]

set_option maxRecDepth 100000 in
set_option maxHeartbeats 2000000 in
theorem edges1_in (n : Nat) (hn : 1 ≤ n) (l Bn Bp M B nb N p : Nat) (X : Nat → Prop) (bs : List Ln.Bd) (A : Option Addr) (c : Nat) (fr : List Value)
    (hMB : B ≤ M) (hX : ∀ k, k < B → ¬ X k) (hBn : Bn < M) (hBp : Bp < M) (hXn : ¬ X Bn) (hXp : ¬ X Bp) (hp : p < 128) (hlen : bs.length ≤ 2002) (J Jx : List (Ix bs p) → World → Prop) (W : World) (hJ : AbidesFrom W.heap.size J)
    (hY : ∀ pre x W, J pre W → pre.length < (Ln.idx bs p).length → YieldAt Fence.wide (n - 1) Try.prog l (ixv x) W fun e W' =>
      (e = .returned (.bool true) ∧ J (pre ++ [x]) W' ∧ KeepX M X W W') ∨ (e = .returned (.bool false) ∧ Jx (pre ++ [x]) W'))
    (cn : Bk W Bn 64 #[.pointer (some ⟨nb, 0, none⟩)]) (cp : Bk W Bp 3 #[.int .i64 p]) (hN : IsNet W B nb N bs A c fr) (h0 : J [] W) :
    CallsIn Fence.wide n Try.prog 96 #[.func (.yield l) #[] #[], .pointer (some ⟨Bn, 0, none⟩), .pointer (some ⟨Bp, 0, none⟩)] W fun e W' => (∃ v, e = .returned v) ∧
      ((∃ ys, ys = (Ln.idx bs p).attach ∧ J ys W') ∨ (∃ pre, pre <+: (Ln.idx bs p).attach ∧ Jx pre W')) := by
  have d1 := cn.cell 0
  have d2 := cp.cell 0
  obtain ⟨v, hv⟩ : ∃ v, fr[p]? = some v := ⟨fr[p]'(by rw [hN.len]; exact hp), List.getElem?_eq_getElem _⟩
  have d3 := (hN.blk.cell (2 + p)).trans ((ncells_from _ _ _ _).trans hv)
  obtain ⟨A', c', rfl, hRd⟩ := hN.rows p v hv
  have hi0 : (0 : Int) ≤ (p : Int) := Int.natCast_nonneg _
  have hi1 : (p : Int) < 128 := by omega
  simp only [List.getElem?_toArray, List.getElem?_cons_zero] at d1 d2
  refine callsIn_of_wp Try.func96 rfl trivial ?_ rfl
  simp only [Try.ntmps96, List.size_toArray, List.length_cons, List.length_nil, Nat.reduceAdd, Nat.reduceSub, Array.replicate_succ, Array.replicate_zero, List.push_toArray, List.append_toArray, List.nil_append, List.cons_append]
  gi_wp2_with (fail)
  gi_quiet (fail)
  gi_wp2_with (fail)
  have hJ0 : J [] (W.drewN nq) := hJ _ _ _ none h0 ⟨rfl, rfl, rfl, Nat.le_refl _, fun _ _ _ => rfl⟩ (fun r e => by cases e)
  gi_loopw [13] (fun i wr => ∃ k : Nat, k ≤ (Ln.idx bs p).length ∧ i = .int .i64 k ∧ J ((Ln.idx bs p).attach.take k) wr ∧ KeepX M X W wr)
    (fun i _ => (Ln.idx bs p).length - (intOf i).toNat)
  case atStart => exact ⟨0, Nat.zero_le _, rfl, hJ0, (KeepX.refl M X W).drewN _⟩
  case round =>
    obtain ⟨k, hk, rfl, hJs, hK⟩ := hrel
    have hil : (Ln.idx bs p).length ≤ bs.length := Ln.idxk_length bs bs.length p
    by_cases hlt : k < (Ln.idx bs p).length
    · have hx : (Ln.idx bs p).attach[k]? = some ⟨(Ln.idx bs p)[k], List.getElem_mem hlt⟩ := by simp [hlt]
      have hN' := hN.below (hK.below hMB hX) (Nat.le_refl _)
      obtain ⟨A'', c'', he, hRd'⟩ := hN'.rows p _ hv
      obtain ⟨b, off, hA, hb, hc⟩ := hRd'.2 (by omega)
      have hA' : A' = some ⟨b, off, none⟩ := by injection he with h1; rw [h1, hA]
      subst hA'
      obtain ⟨i, hi⟩ : ∃ i, (Ln.idx bs p)[k] = i := ⟨_, rfl⟩
      have hmem : i ∈ Ln.idx bs p := by rw [← hi]; exact List.getElem_mem hlt
      obtain ⟨hib, hif⟩ := Ln.idx_lt hmem
      have hck := hc k (by omega)
      rw [show (nlist (Ln.idx bs p))[k]? = some (.int .i64 (i : Int)) from by simp [nlist, hlt, hi]] at hck
      obtain ⟨b2, off2, hA2, hb2, e0, e1, e2, e3⟩ := hN'.bounds.bound hib
      subst hA2
      rw [← Ln.bd_eq hib] at e0 e1 e2 e3
      obtain ⟨fn, tmps, assign, body, hy, hR⟩ := hY _ ⟨i, hmem⟩ wr hJs (by simp; omega)
      dsimp only [ixv] at hy
      have c1 := (hK.bk cn hBn hXn).cell 0
      have c4 := (hN'.blk.cell 1).trans (ncells_1 _ _ _)
      have htk : (Ln.idx bs p).attach.take k ++ [⟨i, hmem⟩] = (Ln.idx bs p).attach.take (k + 1) := by
        rw [List.take_add_one, hx]
        simp [hi]
      rw [htk] at hR
      have HT := Lib.hid htk
      clear htk hi hif hx hc he hA hRd hRd' hY hv
      gi_wp2_with (fail)
      refine hR.mono ?_
      rintro e W3 (⟨rfl, hJ3, hk3⟩ | ⟨rfl, hJx3⟩)
      · gi_wp2_with (fail)
        go_roundw
        case rel => exact ⟨k + 1, by omega, by simp, hJ3, hK.trans hk3⟩
        case measure => simp [intOf]; omega
      · gi_wp2_with (fail)
        refine bodyPost_ret (results_none rfl _ _ _) rfl ?_
        exact ⟨⟨_, rfl⟩, .inr ⟨_, List.take_prefix _ _, hJx3⟩⟩
    · obtain rfl : k = (Ln.idx bs p).length := by omega
      gi_wp2_with (fail)
      go_end0
      exact ⟨⟨_, rfl⟩, .inl ⟨_, by rw [List.take_of_length_le (by simp)], hJs⟩⟩

theorem edges_stops (n : Nat) (hn : 1 ≤ n) (Bn Bp M B nb N p : Nat) (X : Nat → Prop) (bs : List Ln.Bd) (A : Option Addr) (c : Nat) (fr : List Value)
    (hMB : B ≤ M) (hX : ∀ k, k < B → ¬ X k) (hBn : Bn < M) (hBp : Bp < M) (hXn : ¬ X Bn) (hXp : ¬ X Bp) (hp : p < 128) (hlen : bs.length ≤ 2002) (w : World) (hM : M ≤ w.heap.size)
    (cn : Bk w Bn 64 #[.pointer (some ⟨nb, 0, none⟩)]) (cp : Bk w Bp 3 #[.int .i64 p]) (hN : IsNet w B nb N bs A c fr) :
    SeqStopsK Fence.wide n Try.prog 96 #[.pointer (some ⟨Bn, 0, none⟩), .pointer (some ⟨Bp, 0, none⟩)] (fun x : Ix bs p => ixv x) (KeepX M X) (fun ys => ys = (Ln.idx bs p).attach) (fun pre => pre <+: (Ln.idx bs p).attach) (Ln.idx bs p).length w :=
  fun l J Jx W hW hJ _ hY h0 => edges1_in n hn l Bn Bp M B nb N p X bs A c fr hMB hX hBn hBp hXn hXp hp hlen J Jx W hJ hY (cn.below hW (by omega)) (cp.below hW (by omega)) (hN.below hW (by omega)) h0

theorem keepX_t {M : Nat} {X : Nat → Prop} {a b c : World} (h : KeepX M X a b) (k : KeepX M X b c) : KeepX M X a c := h.trans k
theorem keepX_b {M : Nat} {X : Nat → Prop} {w : World} (hM : M ≤ w.heap.size) (W : World) (l : Nat) (o o' : Obj) (hl : w.heap.size ≤ l) (_ : W.heap[l]? = some o) (_ : o.isCells = false) (_ : o.isWalk = false) : KeepX M X W (W.putObj l o') := by
  have hg := grownBy_putObj' W l o'
  refine ⟨hg.os, hg.tape, hg.output, hg.size, fun k hk _ => ?_⟩
  rcases Nat.lt_or_ge k W.heap.size with h | h
  · exact hg.block k h (fun e => by cases e; omega)
  · have h2 : (W.putObj l o').heap.size = W.heap.size := by simp [World.putObj]
    rw [Array.getElem?_eq_none (by omega), Array.getElem?_eq_none (by omega)]

end Go.Proofs.Yteiaofgkmgllcaa

