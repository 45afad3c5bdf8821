/-
  comparisons: a map of methods; possible.
-/
import Derived.Maps.Own
import Derived.Maps.Views
import Derived.Test.YtppfpdhgckghdaaEnds
import Derived.Test.YtppfpdhgckghdaaAll
set_option linter.unusedVariables false
set_option linter.unusedSimpArgs false
namespace Go.Proofs.Ytppfpdhgckghdaa
open Go.RowKit Go.Maps

/-- How an element of a map of functions reads: its function's number. -/
def fnNo : Value → Int
  | .func (.func n) a b => if a.size = 0 ∧ b.size = 0 then n else -1
  | _ => -1
def fnElem (v : Value) : Option (DataW Unit × List MemPlace) := some (.lit (.int .i64 (fnNo v)), [])
theorem fnElem_inv {v : Value} {n : Nat} {ps : List MemPlace} (h : fnElem v = some (.lit (.int .i64 (n : Int)), ps)) : v = .func (.func n) #[] #[] := by
  simp only [fnElem, Option.some.injEq, Prod.mk.injEq, DataW.lit.injEq, Lit.int.injEq, true_and] at h
  have h1 := h.1
  unfold fnNo at h1
  split at h1
  · rename_i m a b
    split at h1
    · rename_i hz
      obtain rfl : m = n := by exact_mod_cast h1
      rw [Array.eq_empty_of_size_eq_zero hz.1, Array.eq_empty_of_size_eq_zero hz.2]
    · omega
  · omega

def cmpD : DataW Unit := (((DataW.map []).put (.int .i64 0) (.lit (.int .i64 110))).put (.int .i64 1) (.lit (.int .i64 111))).put (.int .i64 2) (.lit (.int .i64 112))
def IsCmp (w : World) (g : Nat) : Prop := w.ownsMap Try.prog 104 fnElem g 3 cmpD

theorem IsCmp.below {w w' : World} {g C : Nat} (h : IsCmp w g) (hb : Below C w w') (hg : g < C) : IsCmp w' g := by
  obtain ⟨es, clock, h1, h2⟩ := h
  exact ⟨es, clock, (hb.block g hg).trans h1, h2⟩
theorem IsCmp.alloc {w : World} {g : Nat} (h : IsCmp w g) (o : Obj) : IsCmp (w.alloc o) g := World.ownsMap.alloc h o

theorem IsCmp.far {w : World} {g : Nat} (h : IsCmp w g) {p : Addr} (hp : g ≠ p.block) (u : Value) : IsCmp (w.setCell p u) g := by
  obtain ⟨es, clock, h1, h2⟩ := h
  exact ⟨es, clock, (Below.heap_setCell w p u g hp).trans h1, h2⟩

theorem keyedQ : Keyed Try.prog 104 := int_keyed Try.underlying104

theorem wpList_insert_own {H : Type} {P : Program} (w : World) {ops : Array Oper} {rest : List Oper} {o : Oper} {a : Act} {Q : Exit → Act → World → Prop}
    (hg : o.guard = none) (m x v : Operand) (t : TypeId) (hop : o.op = Op.insert t m x v)
    (k e : TypeId) (K : Keyed P k) (ht : P.underlying t = some (.map k e)) (R : Value → Option (DataW H × List MemPlace)) (b n : Nat) (D : DataW H)
    (hm : a.eval m = .map (some b)) (hown : w.ownsMap P k R b n D) (hn : n < maxLen) (key val : Value) (kl : Lit) (hx : a.eval x = key) (hv : a.eval v = val) (hkey : keyOf P k key = some kl)
    (d : DataW H) (ps : List MemPlace) (hval : R val = some (d, ps))
    (hK : ∀ w', w'.ownsMap P k R b (n + 1) (D.put kl d) → w.grownBy w' (some b) → wpList P ops Q rest (a.put o.dst undef) w') :
    wpList P ops Q (o :: rest) a w := by
  refine wpList_plain hg fun K' hK' => ?_
  obtain ⟨w', hrun, r1, r2⟩ := hown.update K ht hn hkey hval
  unfold Oper.wp
  simp [execOp, hop, hm, hx, hv, hrun, Result.andThen]
  exact hK' _ _ (hK w' r1 r2)

set_option maxRecDepth 100000 in
set_option maxHeartbeats 400000 in
theorem comparisons_any (w : World) :
    Calls Try.prog 83 #[] w fun x w' => ∃ g, x = .returned (.map (some g)) ∧ w.heap.size ≤ g ∧ IsCmp w' g ∧ Below w.heap.size w w' := by
  have hmm := @run_makeMap Try.prog
  have hown := World.ownsMap_made w Try.prog 104 fnElem
  go_enter Try.func83, Try.ntmps83
  go_wp2_with (first
    | (refine wpList_insert_own _ rfl _ _ _ 102 rfl 104 _ keyedQ Try.underlying102 fnElem w.heap.size 0 _ rfl hown (by decide) (.int .i64 0) (.func (.func 110) #[] #[]) (.int .i64 0) rfl rfl (keyOf_int_mk Try.underlying104 rfl) _ _ rfl ?_; intro w1 hown1 hg1)
    | (refine wpList_insert_own _ rfl _ _ _ 102 rfl 104 _ keyedQ Try.underlying102 fnElem w.heap.size 1 _ rfl hown1 (by decide) (.int .i64 1) (.func (.func 111) #[] #[]) (.int .i64 1) rfl rfl (keyOf_int_mk Try.underlying104 rfl) _ _ rfl ?_; intro w2 hown2 hg2)
    | (refine wpList_insert_own _ rfl _ _ _ 102 rfl 104 _ keyedQ Try.underlying102 fnElem w.heap.size 2 _ rfl hown2 (by decide) (.int .i64 2) (.func (.func 112) #[] #[]) (.int .i64 2) rfl rfl (keyOf_int_mk Try.underlying104 rfl) _ _ rfl ?_; intro w3 hown3 hg3))
  go_ret
  have hB0 : Below w.heap.size w (w.alloc (.map #[] 0)) := (Below.refl _ _).alloc (Nat.le_refl _) _
  have hB1 := hB0.grown hg1 hB0.size (fun k e => by cases e; exact Nat.le_refl _)
  have hB2 := hB1.grown hg2 hB1.size (fun k e => by cases e; exact Nat.le_refl _)
  have hB3 := hB2.grown hg3 hB2.size (fun k e => by cases e; exact Nat.le_refl _)
  exact ⟨_, rfl, Nat.le_refl _, hown3, hB3⟩

theorem zeroFn (w : World) : (zeroValue 101).run Try.prog w = .ok .nilFunc w := by kernel_rfl

/-- What the map says of a question. -/
theorem IsCmp.look {w : World} {g : Nat} (h : IsCmp w g) :
    (Instr.lookup 102 (.map (some g)) (.int .i64 0) false).run Try.prog w = .ok (.func (.func 110) #[] #[]) w ∧
    (Instr.lookup 102 (.map (some g)) (.int .i64 1) false).run Try.prog w = .ok (.func (.func 111) #[] #[]) w ∧
    (Instr.lookup 102 (.map (some g)) (.int .i64 2) false).run Try.prog w = .ok (.func (.func 112) #[] #[]) w := by
  have hz := zeroFn w
  refine ⟨?_, ?_, ?_⟩
  · obtain ⟨v, ps, hr, hv⟩ := World.ownsMap.lookup h keyedQ Try.underlying102 hz (zd := _) (zp := []) rfl (keyOf_int_mk Try.underlying104 (a := 0) rfl)
    rw [hr, fnElem_inv (n := 110) hv]
  · obtain ⟨v, ps, hr, hv⟩ := World.ownsMap.lookup h keyedQ Try.underlying102 hz (zd := _) (zp := []) rfl (keyOf_int_mk Try.underlying104 (a := 1) rfl)
    rw [hr, fnElem_inv (n := 111) hv]
  · obtain ⟨v, ps, hr, hv⟩ := World.ownsMap.lookup h keyedQ Try.underlying102 hz (zd := _) (zp := []) rfl (keyOf_int_mk Try.underlying104 (a := 2) rfl)
    rw [hr, fnElem_inv (n := 112) hv]

/-- The cell (a, b) of rows of 128 numbers. -/
theorem Rd.row {w : World} {B n : Nat} {A : Option Addr} {D : List Int} (h : Rd w B 128 A n (ints D)) {a : Nat} (ha : a < n) :
    ∃ b off, A = some ⟨b, off, none⟩ ∧ b < B ∧ ∀ q, q < 128 → w.cell? ⟨b, off + a * 128 + q, none⟩ = some (.int .i64 (Ln.gt D (a * 128 + q))) := by
  obtain ⟨b, off, e, hb, hc⟩ := h.2 (by omega)
  refine ⟨b, off, e, hb, fun q hq => ?_⟩
  have hl := h.1
  rw [ints_length] at hl
  have hlt : a * 128 + q < n * 128 := by omega
  rw [Nat.add_assoc, hc _ hlt, Ln.gt_eq (by omega)]
  simp [ints, hl, hlt]
theorem Rd.nat {w : World} {B : Nat} {A : Option Addr} {l : List Nat} (h : Rd w B 1 A l.length (nlist l)) {k : Nat} (hk : k < l.length) :
    ∃ b off, A = some ⟨b, off, none⟩ ∧ b < B ∧ w.cell? ⟨b, off + k, none⟩ = some (.int .i64 (l[k] : Nat)) := by
  obtain ⟨b, off, e, hb, hc⟩ := h.2 (by omega)
  refine ⟨b, off, e, hb, ?_⟩
  rw [hc k (by omega)]
  simp [nlist, hk]

theorem results_cell2_row {P : Program} {fn : Func} {p q : Tmp} {ty ty' : TypeId} (h : fn.results = #[.cell p ty, .cell q ty']) (tmps : Array Value) (w : World) (g g' : Nat) (t t' : TypeId) (cs cs' : Array Value) (fr fr' : Nat × Nat) (d d' : TypeDesc)
    (hp : tmps.getD p undef = .pointer (some ⟨g, 0, none⟩)) (hq : tmps.getD q undef = .pointer (some ⟨g', 0, none⟩)) (hg : w.heap[g]? = some (.cells cs t fr)) (hg' : w.heap[g']? = some (.cells cs' t' fr'))
    (hu : P.underlying ty = some d) (hd : (match d with | .struct _ | .array _ _ => true | _ => false) = true) (hi : (P.info? ty).map (·.size) = some cs.size)
    (hu' : P.underlying ty' = some d') (hd' : (match d' with | .struct _ | .array _ _ => true | _ => false) = true) (hi' : (P.info? ty').map (·.size) = some cs'.size) :
    (results fn tmps).run P w = .ok (.tuple #[.agg cs, .agg cs']) w := by
  have hp' : tmps[p]?.getD undef = .pointer (some ⟨g, 0, none⟩) := by simpa using hp
  have hq' : tmps[q]?.getD undef = .pointer (some ⟨g', 0, none⟩) := by simpa using hq
  simp [results, h, hp', hq', asAddr, run_loadVar_row w g t ty cs fr d hg hu hd hi, run_loadVar_row w g' t' ty' cs' fr' d' hg' hu' hd' hi']

end Go.Proofs.Ytppfpdhgckghdaa
