/-
  What the claims of layer deed need of the texts Rw.
-/
import Derived.ChangeMaps5
import Derived.Test.YtccikcpcfdjobaaGreatDoorBn08
import Derived.Test.YtccikcpcfdjobaaGreatDoorTie
set_option linter.unusedVariables false
set_option linter.unusedSimpArgs false
namespace Go.Proofs.YtccikcpcfdjobaaGreatDoor
open Go.ChangeShapes Go.WideShapes Go.ChangeAt Go.RowKit Go.Deep Go.Joins
set_option maxRecDepth 100000
theorem wrap_both {H : Type} {enc : TypeId × Value → H} {a : Assume} {C : Checked} {os : Os} {f : FuncId} {fn : Func} {s : ChangeSpec} {cnds : List PathCond} {apart fresh handsOn again : Bool} {X : World → Array Value → Prop}
  (hX : ∀ (w w' : World) (args : Array Value), w.heap = w'.heap → X w args → X w' args)
  (own : ownKnob C.prog.godebug = none) (started : os.Started) (noInit : C.prog.inits.idxOf? f = none) (hfn : C.prog.funcs[f]? = some fn)
  (witness : ∃ (w : World) (tape : Tape) (i : Input), w.os = os ∧ (w.forCall tape i).Shaped C.prog ∧ i.vars = [] ∧ Input.okWide C.prog (w.forCall tape i) .any w.heap.size f i ∧
   ((s.pre enc C.prog fn cnds apart (w.forCall tape i).memory i.args ∧ X (w.forCall tape i).memory i.args) ∧ sizedMet enc C.prog fn (OpenSpec.ofChange s) apart (w.forCall tape i).memory i.args) ∧ a.holds C.prog (lone (Frame.enter C.prog f i.args .normal) [] (w.forCall tape i)))
  (contract : ∀ (W : World) (base : Nat) (args : Array Value) (ds gs : List (DataW H)) (before : List MemPlace),
   (∀ (j : Nat) t v, fn.params[j]? = some t → args[j]? = some v → Value.okWide C.prog W .any base t v) →
   DataW.Whole enc C.prog fn.params.toList s.vars apart W args.toList ds gs before →
   X W args → W.ShapedOpen C.prog →
   Calls C.prog f args W fun e W' => ∃ v, e = .returned v ∧ s.post enc C.prog fn apart fresh handsOn again W args v W') :
  ReturnsInHanded a C os f .any (fun w args => (s.pre enc C.prog fn cnds apart w args ∧ X w args) ∧ sizedMet enc C.prog fn (OpenSpec.ofChange s) apart w args) (s.post enc C.prog fn apart fresh handsOn again) := by
 refine returnsInHanded_of_calls own started noInit witness ?_
 intro w tape i _ hsh _ hok hpre hholds
 obtain ⟨_, _, _, fn', hfn', _, _, _, _, hval⟩ := hok
 have e : fn' = fn := Option.some.inj (hfn'.symm.trans hfn)
 subst e
 obtain ⟨⟨⟨ds, gs, before, hw, hc⟩, hx⟩, hz⟩ := hpre
 have hw' := DataW.Whole.of_heap (w' := w.forCall tape i) (by rfl) hw
 refine (contract (w.forCall tape i) w.heap.size i.args ds gs before hval hw' (hX _ _ _ (by rfl) hx) hsh).mono fun e W' ⟨v, he, hp⟩ => ?_
 subst he
 exact ChangeSpec.post_blind hp
def laidL : List (String × DataW Unit) := [("math/bits.deBruijn32tab", Rows.laid_math_bits_deBruijn32tab), ("math/bits.deBruijn64tab", Rows.laid_math_bits_deBruijn64tab), ("internal/strconv.uint64pow10", Rows.laid_internal_strconv_uint64pow10), ("unicode/utf8.acceptRanges", Rows.laid_unicode_utf8_acceptRanges), ("strconv.ErrRange", Rows.laid_strconv_ErrRange), ("strconv.ErrSyntax", Rows.laid_strconv_ErrSyntax), ("merestone/course.sines", Rows.laid_merestone_course_sines), ("unicode/utf8.first", Rows.laid_unicode_utf8_first)]
theorem sines_tab : (Rows.laid_merestone_course_sines : DataW Unit) = Lib.tabData .i64 Cs.T := by kernel_rfl
theorem pow_tab : (Rows.laid_internal_strconv_uint64pow10 : DataW Unit) = Lib.tabData .u64 Lib.pow10Tab := by kernel_rfl
theorem var_lt {P : Program} {W : World} {name : String} {g : Nat} {cs : Array Value} (h1 : P.globalNamed name = some g) (h3 : W.var? P name = some cs) : g < W.heap.size := by
 unfold World.var? at h3
 rw [h1] at h3
 simp only [Option.bind_some] at h3
 cases hh : W.heap[g]? with
 | none => rw [hh] at h3; cases h3
 | some o => exact (Array.getElem?_eq_some_iff.1 hh).1
theorem env_of {W : World} (hsh : W.ShapedOpen Tryz.prog) (h : laidMetH Tryz.prog laidL W) : Env W := by
 rw [MakeChecks.laidMetH_plain _ _ _ (by kernel_rfl)] at h
 obtain ⟨ps, hl, _, _⟩ := h
 have gl : 9 ≤ W.heap.size := by
  obtain ⟨g, t, cs, fuel, p, hg, _, hv, _⟩ := laid_at hl ("math/bits.deBruijn64tab", Rows.laid_math_bits_deBruijn64tab) (by simp [laidL])
  obtain rfl := Option.some.inj ((show Tryz.prog.globalNamed "math/bits.deBruijn64tab" = some 3 by kernel_rfl).symm.trans hg)
  have h1 := var_lt hg hv
  obtain ⟨g2, t2, cs2, fuel2, p2, hg2, _, hv2, _⟩ := laid_at hl ("merestone/course.sines", Rows.laid_merestone_course_sines) (by simp [laidL])
  obtain rfl := Option.some.inj ((show Tryz.prog.globalNamed "merestone/course.sines" = some 8 by kernel_rfl).symm.trans hg2)
  have h2 := var_lt hg2 hv2
  omega
 have hs : Lib.TabIs Tryz.prog W "merestone/course.sines" .i64 Cs.T := tab_of (g := 8) (t := 309) (e := 3) (n := 91) (by kernel_rfl) (by kernel_rfl) (by kernel_rfl) (by kernel_rfl) (by kernel_rfl) (by kernel_rfl) hl
  (by rw [← sines_tab]; simp [laidL])
 refine ⟨⟨by omega, fun k hk => ?_⟩, gl, ?_, ?_, ?_, ?_⟩
 ·have := hs.cell (g := 8) (by kernel_rfl) k (by rw [Cs.T_length]; exact hk)
  rw [this]
  rfl
 ·exact tab_of (g := 1) (t := 264) (e := 210) (n := 20) (by kernel_rfl) (by kernel_rfl) (by kernel_rfl) (by kernel_rfl) (by kernel_rfl) (by kernel_rfl) hl
   (by rw [← pow_tab]; simp [laidL])
 ·exact cell_of_shapedOpen_int (t := 3) (zero := #[.int .i64 0]) hsh (of_decide_eq_true (by kernel_rfl)) (by kernel_rfl) (by kernel_rfl) (by kernel_rfl) (by kernel_rfl) (by kernel_rfl)
 ·exact iface_of (g := 4) (t := 173) (by kernel_rfl) (by kernel_rfl) (by kernel_rfl) hl (show ("strconv.ErrSyntax", Rows.laid_strconv_ErrSyntax) ∈ laidL by simp [laidL])
 ·exact iface_of (g := 5) (t := 173) (by kernel_rfl) (by kernel_rfl) (by kernel_rfl) hl (show ("strconv.ErrRange", Rows.laid_strconv_ErrRange) ∈ laidL by simp [laidL])
theorem laid_door (os : Os) (args : Array Value) : laidMetH Tryz.prog laidL ((World.laidAll Tryz.prog os laidL).forCall (fun _ _ => 0) ⟨#[], args, []⟩).memory := by
 rw [MakeChecks.laidMetH_plain _ _ _ (by kernel_rfl)]
 exact laidMet_laidAll _ (by kernel_rfl) (by kernel_rfl)
theorem shaped_door (os : Os) (args : Array Value) : ((World.laidAll Tryz.prog os laidL).forCall (fun _ _ => 0) ⟨#[], args, []⟩).Shaped Tryz.prog :=
 World.shaped_of_ZipB (by kernel_rfl) (by kernel_rfl)
end Go.Proofs.YtccikcpcfdjobaaGreatDoor
