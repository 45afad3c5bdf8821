/-
  What an argument of a statement is: variations, a course, courses; what the listed variables give; a row's wrap with the world's shape.
-/
import Derived.Test.YtncdeogpmodoaaaGreatDoorEnv
import Derived.Test.YtncdeogpmodoaaaGreatDoorRows
import Derived.ProofKit
import Derived.OpenVars
import Derived.Carry
import Derived.OpenShut
import Derived.Deep.Slices
import Derived.Lib.SmallJoins
import Derived.Lib.LaidTab
import Derived.Shelf.Vars
import Derived.HandedShaped
import Derived.LaidMore
import Derived.Lay
import Derived.MakeChecks
import Derived.SevenTiedAt
set_option linter.unusedVariables false
set_option linter.unusedSimpArgs false
namespace Go.Proofs.YtncdeogpmodoaaaGreatDoor
open Go.ChangeShapes Go.WideShapes Go.ChangeAt Go.RowKit Go.Deep Go.Joins
set_option maxRecDepth 100000

theorem Tryz.ownL : ownKnob Tryz.prog.godebug = none := by kernel_rfl
theorem Tryz.laidOutL : laidOutB Tryz.prog = true := by kernel_rfl
theorem Tryz.cellsVar : Tryz.prog.cellsOf 80 = 2 := by kernel_rfl
theorem Tryz.cellsCo : Tryz.prog.cellsOf 29 = 6 := by kernel_rfl
theorem Tryz.cellsCh : Tryz.prog.cellsOf 27 = 2 := by kernel_rfl
theorem Tryz.cellsInt : Tryz.prog.cellsOf 3 = 1 := by kernel_rfl

theorem plain_of_cell {w : World} {a : Addr} {v : Value} (h : w.cell? a = some v) : ∃ b off, a = ⟨b, off, none⟩ ∧ b < w.heap.size := by
  obtain ⟨b, off, s⟩ := a
  unfold World.cell? at h
  dsimp only at h
  split at h
  · rename_i c _ _ hh
    cases s with
    | none => exact ⟨b, off, rfl, (Array.getElem?_eq_some_iff.1 hh).1⟩
    | some x => simp at h
  · simp at h

section
variable {H : Type} {enc : TypeId × Value → H} {w : World} {base : Nat} {spare : Nat → Bool} {held : Bool} {b0 : Nat} {r : Reach}

theorem flat_length {α : Type} {cell : α → List Value} {n : Nat} (hc : ∀ a, (cell a).length = n) (ys : List α) : (ys.flatMap cell).length = ys.length * n := by
  induction ys with
  | nil => simp
  | cons y ys ih => rw [List.flatMap_cons, List.length_append, ih, hc, List.length_cons, Nat.succ_mul]; omega
theorem flat_at {α : Type} {cell : α → List Value} {n : Nat} (hc : ∀ a, (cell a).length = n) (ys : List α) {k : Nat} (hk : k < ys.length) {j : Nat} (hj : j < n) : (ys.flatMap cell)[k * n + j]? = (cell ys[k])[j]? := by
  induction ys generalizing k with
  | nil => simp at hk
  | cons y ys ih =>
    rw [List.flatMap_cons]
    cases k with
    | zero =>
      rw [List.getElem?_append_left (by rw [hc]; omega)]
      simp
    | succ k =>
      rw [List.getElem?_append_right (by rw [hc, Nat.succ_mul]; omega), hc, show (k + 1) * n + j - n = k * n + j by rw [Nat.succ_mul]; omega]
      simpa using ih (k := k) (by simpa using hk)

/-- A slice whose elements read as the cells of something, whatever it is. -/
theorem open_els {α : Type} [Inhabited α] {P : Program} {cell : α → List Value} {n : Nat} {t e : TypeId} {Q : α → Prop} (ht : P.underlying t = some (.slice e)) (hce : P.cellsOf e = n) (hc : ∀ a, (cell a).length = n) (hn : 0 < n)
    (he : ∀ fuel cs x, DataW.trod enc P w base spare held fuel e cs = some x → ∃ a, cs = cell a ∧ Q a)
    {v : Value} {d : DataW H} {p : List MemPlace} (hv : Value.okWide P w r b0 t v) (h : DataW.Trod enc P w base spare held t v d p) :
    ∃ (A : Option Addr) (c : Nat) (ys : List α), v = .slice A ys.length c ∧ Rd w w.heap.size n A ys.length (ys.flatMap cell) ∧ ys.length ≤ 9223372036854775807 ∧ ∀ y ∈ ys, Q y := by
  obtain ⟨a0, len, cap, rfl⟩ := okWide_slice ht hv
  obtain ⟨fuel, hf⟩ := h
  rcases open_slice ht hf with ⟨hcs, hx⟩ | ⟨a, len', cap', m, k, D, Pl, hcs, _, hl, hm, hmm, hx, hel⟩
  · simp [Value.cells] at hcs
    obtain ⟨rfl, rfl, rfl⟩ := hcs
    exact ⟨none, 0, [], rfl, Rd.nil _ _ _ _, by simp, by simp⟩
  · simp [Value.cells] at hcs
    obtain ⟨rfl, rfl, rfl⟩ := hcs
    have hlm : len ≤ m := by rw [hmm]; split <;> omega
    have each : ∀ i, i < len → ∃ x : α, (∀ j, j < n → w.cell? (a.add (i * n + j)) = (cell x)[j]?) ∧ Q x := by
      intro i hi
      obtain ⟨cs', h1, h2⟩ := hel i (by omega)
      rw [hce] at h1
      obtain ⟨_, hlen, hcell⟩ := World.cells?_some h1
      obtain ⟨x, rfl, hq⟩ := he _ _ _ h2
      refine ⟨x, fun j hj => ?_, hq⟩
      have := hcell j hj
      rwa [add_add] at this
    obtain ⟨V, hV⟩ := choose_lt each
    have hlen : ((List.range len).map V).length = len := by simp
    refine ⟨some a, cap, (List.range len).map V, by rw [hlen], ⟨by rw [flat_length hc], fun h0 => ?_⟩, by unfold maxLen at hm; simp; omega, fun b hb => ?_⟩
    · rw [hlen] at h0 ⊢
      obtain ⟨v0, hv0⟩ : ∃ v, (cell (V 0))[0]? = some v := by
        cases hg : (cell (V 0))[0]? with
        | none => rw [List.getElem?_eq_none_iff, hc] at hg; omega
        | some v => exact ⟨v, rfl⟩
      obtain ⟨b', off', hab, hb'⟩ := plain_of_cell (((hV 0 h0).1 0 hn).trans hv0)
      obtain ⟨b, off, s⟩ := a
      obtain ⟨hb, rfl⟩ : b < w.heap.size ∧ s = none := by
        simp only [Addr.add, Nat.zero_mul, Nat.add_zero, if_true, Addr.mk.injEq] at hab
        exact ⟨by omega, hab.2.2⟩
      refine ⟨b, off, rfl, hb, fun j hj => ?_⟩
      have hdiv : j / n < len := Nat.div_lt_of_lt_mul (by rwa [Nat.mul_comm])
      have hq := (hV (j / n) hdiv).1 (j % n) (Nat.mod_lt _ hn)
      have hr := flat_at hc ((List.range len).map V) (k := j / n) (by rw [hlen]; exact hdiv) (Nat.mod_lt j hn)
      have hjn : j / n * n + j % n = j := by rw [Nat.mul_comm]; exact Nat.div_add_mod j n
      rw [hjn] at hq hr
      rw [add_plain] at hq
      simp only [List.getElem_map, List.getElem_range] at hr
      exact hq.trans hr.symm
    · obtain ⟨i, hi, rfl⟩ := List.mem_map.1 hb
      exact (hV i (List.mem_range.1 hi)).2

def wfI (n : Int) : Prop := (Lit.int .i64 n).wf = true
theorem wfI.le {n : Int} (h : wfI n) : -9223372036854775808 ≤ n ∧ n ≤ 9223372036854775807 := by
  unfold wfI at h
  simp only [Lit.wf, Bool.and_eq_true, decide_eq_true_eq] at h
  have h1 : IntKind.i64.min = -9223372036854775808 := by decide
  have h2 : IntKind.i64.max = 9223372036854775807 := by decide
  omega

theorem trod_variation {fuel : Nat} {cs : List Value} {x : DataW H × List MemPlace} (h : DataW.trod enc Tryz.prog w base spare held fuel 80 cs = some x) : ∃ v : Int × Int, cs = vcell v ∧ True := by
  obtain ⟨y0, y1, n, rfl, hl, g0, g1⟩ := trod_struct2 Tryz.underlying80 h
  rw [Tryz.cellsVar] at hl
  match cs, hl with
  | [v0, v1], _ =>
    simp only [Tryz.cellsInt, List.drop_zero, List.drop_succ_cons, List.take_succ_cons, List.take_zero] at g0 g1
    obtain ⟨a, e0, _, w0⟩ := DataW.trod_int Tryz.underlying3 g0
    obtain ⟨b, e1, _, w1⟩ := DataW.trod_int Tryz.underlying3 g1
    simp only [List.cons.injEq, and_true] at e0 e1
    subst e0; subst e1
    exact ⟨(a, b), rfl, trivial⟩

set_option maxRecDepth 100000 in
theorem trod_course {fuel : Nat} {cs : List Value} {x : DataW H × List MemPlace} (h : DataW.trod enc Tryz.prog w base spare held fuel 29 cs = some x) : ∃ c : Cs.Co, cs = ccell c ∧ True := by
  obtain ⟨xs, n, _, rfl, hl, hlen, hf⟩ := DataW.trod_struct Tryz.underlying29 h
  rw [Tryz.cellsCo] at hl
  match xs, hlen with
  | [y0, y1, y2, y3, y4], _ =>
    have f0 := hf 0 _ rfl
    have f1 := hf 1 _ rfl
    have f2 := hf 2 _ rfl
    have f3 := hf 3 _ rfl
    have f4 := hf 4 _ rfl
    match cs, hl with
    | [v0, v1, v2, v3, v4, v5], _ =>
      simp only [Tryz.cellsInt, Tryz.cellsCh, List.drop_zero, List.drop_succ_cons, List.take_succ_cons, List.take_zero, List.getElem?_cons_zero, List.getElem?_cons_succ] at f0 f1 f2 f3 f4
      obtain ⟨a, e0, _, w0⟩ := DataW.trod_int Tryz.underlying3 f0
      obtain ⟨b, e1, _, w1⟩ := DataW.trod_int Tryz.underlying3 f1
      obtain ⟨c, e2, _, w2⟩ := DataW.trod_int Tryz.underlying3 f2
      obtain ⟨d, e3, _, w3⟩ := DataW.trod_int Tryz.underlying3 f3
      obtain ⟨z0, z1, m, _, _, g0, g1⟩ := trod_struct2 Tryz.underlying27 f4
      simp only [Tryz.cellsInt, List.drop_zero, List.drop_succ_cons, List.take_succ_cons, List.take_zero] at g0 g1
      obtain ⟨e, e4, _, w4⟩ := DataW.trod_int Tryz.underlying3 g0
      obtain ⟨f, e5, _, w5⟩ := DataW.trod_int Tryz.underlying3 g1
      cases e0; cases e1; cases e2; cases e3; cases e4; cases e5
      exact ⟨⟨a, b, c, d, e, f⟩, rfl, trivial⟩

instance : Inhabited Cs.Co := ⟨⟨0, 0, 0, 0, 0, 0⟩⟩

theorem open_vars {v : Value} {d : DataW H} {p : List MemPlace} (hv : Value.okWide Tryz.prog w r b0 25 v) (h : DataW.Trod enc Tryz.prog w base spare held 25 v d p) :
    ∃ (A : Option Addr) (c : Nat) (vs : List (Int × Int)), v = .slice A vs.length c ∧ Rd w w.heap.size 2 A vs.length (vcells vs) ∧ vs.length ≤ 9223372036854775807 := by
  obtain ⟨A, c, ys, h1, h2, h3, _⟩ := open_els (cell := vcell) (n := 2) (Q := fun _ => True) Tryz.underlying25 Tryz.cellsVar (fun _ => rfl) (by decide) (fun fuel cs x hx => trod_variation hx) hv h
  exact ⟨A, c, ys, h1, h2, h3⟩
theorem open_courses {v : Value} {d : DataW H} {p : List MemPlace} (hv : Value.okWide Tryz.prog w r b0 56 v) (h : DataW.Trod enc Tryz.prog w base spare held 56 v d p) :
    ∃ (A : Option Addr) (c : Nat) (cs : List Cs.Co), v = .slice A cs.length c ∧ Rd w w.heap.size 6 A cs.length (ccells cs) ∧ cs.length ≤ 9223372036854775807 := by
  obtain ⟨A, c, ys, h1, h2, h3, _⟩ := open_els (cell := ccell) (n := 6) (Q := fun _ => True) Tryz.underlying56 Tryz.cellsCo (fun _ => rfl) (by decide) (fun fuel cs x hx => trod_course hx) hv h
  exact ⟨A, c, ys, h1, h2, h3⟩
theorem open_course {v : Value} {d : DataW H} {p : List MemPlace} (hv : Value.okWide Tryz.prog w r b0 29 v) (h : DataW.Trod enc Tryz.prog w base spare held 29 v d p) : ∃ c : Cs.Co, v = cval c := by
  obtain ⟨cs, rfl, hsz⟩ := okWide_struct Tryz.underlying29 hv
  obtain ⟨fuel, hf⟩ := h
  obtain ⟨c, hc, _⟩ := trod_course hf
  refine ⟨c, ?_⟩
  have : cs.toList = ccell c := hc
  obtain ⟨l⟩ := cs
  simp only at this
  subst this
  rfl
end

/-! What the listed variables give. -/
theorem laid_at {P : Program} {W : World} : ∀ {l : List (String × DataW Unit)} {ps : List MemPlace}, DataW.LaidVars P W l ps → ∀ x ∈ l, ∃ g t cs fuel p, P.globalNamed x.1 = some g ∧ (P.globals[g]?).map (·.type) = some t ∧ W.var? P x.1 = some cs ∧
    DataW.trod (fun _ => ()) P W 0 (fun _ => true) false fuel t cs.toList = some (x.2, p)
  | [], _, _, _, hx => by cases hx
  | (n, d) :: l, ps, h, x, hx => by
    obtain ⟨g, t, cs, fuel, p, q, h1, h2, h3, h4, hr, _⟩ := h
    rcases List.mem_cons.1 hx with rfl | hx
    · exact ⟨g, t, cs, fuel, p, h1, h2, h3, h4⟩
    · exact laid_at hr x hx

theorem tab_of {P : Program} {W : World} {name : String} {k : IntKind} {zs : List Int} {l : List (String × DataW Unit)} {ps : List MemPlace} {g : Nat} {t e : TypeId} {n : Nat}
    (hg : P.globalNamed name = some g) (hty : (P.globals[g]?).map (·.type) = some t) (ht : P.underlying t = some (.array n e)) (he : P.underlying e = some (.int k)) (hce : P.cellsOf e = 1) (hct : P.cellsOf t = n)
    (h : DataW.LaidVars P W l ps) (hm : (name, Lib.tabData k zs) ∈ l) : Lib.TabIs P W name k zs := by
  obtain ⟨g', t', cs, fuel, p, hg', ht', hvar, hd⟩ := laid_at h _ hm
  obtain rfl := Option.some.inj (hg.symm.trans hg')
  obtain rfl := Option.some.inj (hty.symm.trans ht')
  unfold Lib.TabIs
  rw [hvar, ← Lib.cells_of_tab ht he hce hct hd]

theorem iface_of {P : Program} {W : World} {name tn : String} {d : DataW Unit} {l : List (String × DataW Unit)} {ps : List MemPlace} {g : Nat} {t : TypeId}
    (hg : P.globalNamed name = some g) (hty : (P.globals[g]?).map (·.type) = some t) (ht : (match P.underlying t with | some (.interface _) => true | _ => false) = true)
    (h : DataW.LaidVars P W l ps) (hm : (name, .iface tn d) ∈ l) : ∃ tp p, W.var? P name = some #[.iface tp p] := by
  obtain ⟨g', t', cs, fuel, p, hg', ht', hvar, hd⟩ := laid_at h _ hm
  obtain rfl := Option.some.inj (hg.symm.trans hg')
  obtain rfl := Option.some.inj (hty.symm.trans ht')
  cases fuel with
  | zero => simp [DataW.trod] at hd
  | succ fuel =>
    have hx : ∃ u v, cs.toList = [.iface u v] := by
      unfold DataW.trod at hd
      split at ht
      · rename_i m hm2
        rw [hm2] at hd
        split at hd <;> simp_all
      · cases ht
    obtain ⟨u, v, hcs⟩ := hx
    exact ⟨u, v, by rw [hvar]; congr 1; exact Array.toList_inj.1 hcs⟩

end Go.Proofs.YtncdeogpmodoaaaGreatDoor
