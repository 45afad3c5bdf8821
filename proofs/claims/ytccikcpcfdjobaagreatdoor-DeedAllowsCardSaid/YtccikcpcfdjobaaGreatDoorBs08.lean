/-
  What the claim needs: contracts.
-/
import Derived.ProofKit
import Derived.OpenVars
import Derived.Carry
import Derived.OpenShut
import Derived.Deep.Slices
import Derived.Lib.SmallJoins
import Derived.Shelf.Vars
import Derived.HandedShaped
import Derived.LaidMore
import Derived.Lay
import Derived.MakeChecks
import Derived.SevenTiedAt
import Derived.ChangeMaps5
import Derived.Test.YtccikcpcfdjobaaGreatDoorBs05
import Derived.Test.YtccikcpcfdjobaaGreatDoorRows
import Derived.Test.YtccikcpcfdjobaaGreatDoorTie
set_option linter.unusedVariables false
set_option linter.unusedSimpArgs false
set_option maxHeartbeats 8000000
set_option maxRecDepth 100000
namespace Go.Proofs.YtccikcpcfdjobaaGreatDoor
section
open Go.ChangeShapes Go.WideShapes Go.ChangeAt Go.RowKit Go.Deep Go.Joins
theorem Tryz.ownL : ownKnob Tryz.prog.godebug = none := by kernel_rfl
theorem Tryz.laidOutL : laidOutB Tryz.prog = true := by kernel_rfl
theorem Tryz.cellsVar : Tryz.prog.cellsOf 116 = 2 := by kernel_rfl
theorem Tryz.cellsCo : Tryz.prog.cellsOf 46 = 6 := by kernel_rfl
theorem Tryz.cellsCh : Tryz.prog.cellsOf 44 = 2 := by kernel_rfl
theorem Tryz.cellsInt : Tryz.prog.cellsOf 3 = 1 := by kernel_rfl
theorem y5A {w : World} {a : Addr} {v : Value} (h : w.cell? a = some v) : ∃ b off, a = ⟨b, off, none⟩ /\ b < w.heap.size := by
 obtain ⟨b, off, s⟩ := a;unfold World.cell? at h;dsimp only at h;split at h
 ·rename_i c _ _ hh;cases s with
  | none => exact ⟨b, off, rfl, (Array.getElem?_eq_some_iff.1 hh).1⟩
  | some x => simp at h
 simp at h
section
variable {H : Type} {enc : TypeId × Value -> H} {w : World} {base : Nat} {spare : Nat -> Bool} {held : Bool} {b0 : Nat} {r : Reach}
theorem y6x {α : Type} {cell : α -> List Value} {n : Nat} (hc : ∀ a, (cell a).length = n) (ys : List α) : (ys.flatMap cell).length = ys.length * n := by
 induction ys with
 | nil => simp
 | cons y ys ih => rw [List.flatMap_cons, List.length_append, ih, hc, List.length_cons, Nat.succ_mul]; omega
theorem yCD {α : Type} {cell : α -> List Value} {n : Nat} (hc : ∀ a, (cell a).length = n) (ys : List α) {k : Nat} (hk : k < ys.length) {j : Nat} (hj : j < n) : (ys.flatMap cell)[k * n + j]? = (cell ys[k])[j]? := by
  induction ys generalizing k with
  | nil => simp at hk
  | cons y ys ih =>
    rw [List.flatMap_cons];cases k with
    | zero =>
      rw [List.getElem?_append_left (by rw [hc]; omega)];simp
    | succ k =>
      rw [List.getElem?_append_right (by rw [hc, Nat.succ_mul]; omega), hc, show (k + 1) * n + j - n = k * n + j by rw [Nat.succ_mul]; omega];simpa using ih (k := k) (by simpa using hk)
def wfI (n : Int) : Prop := (Lit.int .i64 n).wf = true
theorem wfI.le {n : Int} (h : wfI n) : -9223372036854775808 <= n /\ n <= 9223372036854775807 := by
 unfold wfI at h;simp only [Lit.wf, Bool.and_eq_true, decide_eq_true_eq] at h;have h1 : IntKind.i64.min = -9223372036854775808 := by decide
 have h2 : IntKind.i64.max = 9223372036854775807 := by decide
 omega
theorem y4G {fuel : Nat} {cs : List Value} {x : DataW H × List MemPlace} (h : DataW.trod enc Tryz.prog w base spare held fuel 116 cs = some x) : ∃ v : Int × Int, cs = vcell v /\ True := by
  obtain ⟨y0, y1, n, rfl, hl, g0, g1⟩ := trod_struct2 Tryz.underlying116 h;rw [Tryz.cellsVar] at hl
  match cs, hl with
  | [v0, v1], _ =>
    simp only [Tryz.cellsInt, List.drop_zero, List.drop_succ_cons, List.take_succ_cons, List.take_zero] at g0 g1;obtain ⟨a, e0, _, w0⟩ := DataW.trod_int Tryz.underlying3 g0;obtain ⟨b, e1, _, w1⟩ := DataW.trod_int Tryz.underlying3 g1;simp only [List.cons.injEq, and_true] at e0 e1;subst e0; subst e1;exact ⟨(a, b), rfl, trivial⟩
theorem y7V {fuel : Nat} {cs : List Value} {x : DataW H × List MemPlace} (h : DataW.trod enc Tryz.prog w base spare held fuel 46 cs = some x) : ∃ c : Cs.Co, cs = ccell c /\ True := by
  obtain ⟨xs, n, _, rfl, hl, hlen, hf⟩ := DataW.trod_struct Tryz.underlying46 h;rw [Tryz.cellsCo] at hl
  match xs, hlen with
  | [y0, y1, y2, y3, y4], _ =>
    have f0 := hf 0 _ rfl;have f1 := hf 1 _ rfl;have f2 := hf 2 _ rfl;have f3 := hf 3 _ rfl;have f4 := hf 4 _ rfl
    match cs, hl with
    | [v0, v1, v2, v3, v4, v5], _ =>
      simp only [Tryz.cellsInt, Tryz.cellsCh, List.drop_zero, List.drop_succ_cons, List.take_succ_cons, List.take_zero, List.getElem?_cons_zero, List.getElem?_cons_succ] at f0 f1 f2 f3 f4;obtain ⟨a, e0, _, w0⟩ := DataW.trod_int Tryz.underlying3 f0;obtain ⟨b, e1, _, w1⟩ := DataW.trod_int Tryz.underlying3 f1;obtain ⟨c, e2, _, w2⟩ := DataW.trod_int Tryz.underlying3 f2;obtain ⟨d, e3, _, w3⟩ := DataW.trod_int Tryz.underlying3 f3;obtain ⟨z0, z1, m, _, _, g0, g1⟩ := trod_struct2 Tryz.underlying44 f4;simp only [Tryz.cellsInt, List.drop_zero, List.drop_succ_cons, List.take_succ_cons, List.take_zero] at g0 g1;obtain ⟨e, e4, _, w4⟩ := DataW.trod_int Tryz.underlying3 g0;obtain ⟨f, e5, _, w5⟩ := DataW.trod_int Tryz.underlying3 g1;cases e0; cases e1; cases e2; cases e3; cases e4; cases e5;exact ⟨⟨a, b, c, d, e, f⟩, rfl, trivial⟩
instance : Inhabited Cs.Co := ⟨⟨0, 0, 0, 0, 0, 0⟩⟩
end
theorem y3K {P : Program} {W : World} : ∀ {l : List (String × DataW Unit)} {ps : List MemPlace}, DataW.LaidVars P W l ps -> ∀ x ∈ l, ∃ g t cs fuel p, P.globalNamed x.1 = some g /\ (P.globals[g]?).map (·.type) = some t /\ W.var? P x.1 = some cs /\
    DataW.trod (fun _ => ()) P W 0 (fun _ => true) false fuel t cs.toList = some (x.2, p)
  | [], _, _, _, hx => by cases hx
  | (n, d) :: l, ps, h, x, hx => by
    obtain ⟨g, t, cs, fuel, p, q, h1, h2, h3, h4, hr, _⟩ := h;rcases List.mem_cons.1 hx with rfl | hx
    · exact ⟨g, t, cs, fuel, p, h1, h2, h3, h4⟩
    exact y3K hr x hx
theorem yBz {P : Program} {W : World} {name : String} {k : IntKind} {zs : List Int} {l : List (String × DataW Unit)} {ps : List MemPlace} {g : Nat} {t e : TypeId} {n : Nat}
  (hg : P.globalNamed name = some g) (hty : (P.globals[g]?).map (·.type) = some t) (ht : P.underlying t = some (.array n e)) (he : P.underlying e = some (.int k)) (hce : P.cellsOf e = 1) (hct : P.cellsOf t = n)
  (h : DataW.LaidVars P W l ps) (hm : (name, Lib.tabData k zs) ∈ l) : Lib.TabIs P W name k zs := by
 obtain ⟨g', t', cs, fuel, p, hg', ht', hvar, hd⟩ := y3K h _ hm;obtain rfl := Option.some.inj (hg.symm.trans hg');obtain rfl := Option.some.inj (hty.symm.trans ht');unfold Lib.TabIs;rw [hvar, <- Lib.cells_of_tab ht he hce hct hd]
theorem y7k {P : Program} {W : World} {name tn : String} {d : DataW Unit} {l : List (String × DataW Unit)} {ps : List MemPlace} {g : Nat} {t : TypeId}
    (hg : P.globalNamed name = some g) (hty : (P.globals[g]?).map (·.type) = some t) (ht : (match P.underlying t with | some (.interface _) => true | _ => false) = true)
    (h : DataW.LaidVars P W l ps) (hm : (name, .iface tn d) ∈ l) : ∃ tp p, W.var? P name = some #[.iface tp p] := by
  obtain ⟨g', t', cs, fuel, p, hg', ht', hvar, hd⟩ := y3K h _ hm;obtain rfl := Option.some.inj (hg.symm.trans hg');obtain rfl := Option.some.inj (hty.symm.trans ht');cases fuel with
  | zero => simp [DataW.trod] at hd
  | succ fuel =>
    have hx : ∃ u v, cs.toList = [.iface u v] := by
      unfold DataW.trod at hd;split at ht
      · rename_i m hm2
        rw [hm2] at hd;split at hd <;> simp_all
      cases ht
    obtain ⟨u, v, hcs⟩ := hx;exact ⟨u, v, by rw [hvar]; congr 1; exact Array.toList_inj.1 hcs⟩
end

section
open Go.ChangeShapes Go.WideShapes Go.ChangeAt Go.RowKit Go.Deep Go.Joins
theorem yAu {H : Type} {enc : TypeId × Value -> H} {a : Assume} {C : Checked} {os : Os} {f : FuncId} {fn : Func} {s : ChangeSpec} {cnds : List PathCond} {apart fresh handsOn again : Bool} {X : World -> Array Value -> Prop}
  (hX : ∀ (w w' : World) (args : Array Value), w.heap = w'.heap -> X w args -> X w' args)
  (own : ownKnob C.prog.godebug = none) (started : os.Started) (noInit : C.prog.inits.idxOf? f = none) (hfn : C.prog.funcs[f]? = some fn)
  (witness : ∃ (w : World) (tape : Tape) (i : Input), w.os = os /\ (w.forCall tape i).Shaped C.prog /\ i.vars = [] /\ Input.okWide C.prog (w.forCall tape i) .any w.heap.size f i /\
   ((s.pre enc C.prog fn cnds apart (w.forCall tape i).memory i.args /\ X (w.forCall tape i).memory i.args) /\ sizedMet enc C.prog fn (OpenSpec.ofChange s) apart (w.forCall tape i).memory i.args) /\ a.holds C.prog (lone (Frame.enter C.prog f i.args .normal) [] (w.forCall tape i)))
  (contract : ∀ (W : World) (base : Nat) (args : Array Value) (ds gs : List (DataW H)) (before : List MemPlace),
   (∀ (j : Nat) t v, fn.params[j]? = some t -> args[j]? = some v -> Value.okWide C.prog W .any base t v) ->
   DataW.Whole enc C.prog fn.params.toList s.vars apart W args.toList ds gs before ->
   X W args -> W.ShapedOpen C.prog ->
   Calls C.prog f args W fun e W' => ∃ v, e = .returned v /\ s.post enc C.prog fn apart fresh handsOn again W args v W') :
  ReturnsInHanded a C os f .any (fun w args => (s.pre enc C.prog fn cnds apart w args /\ X w args) /\ sizedMet enc C.prog fn (OpenSpec.ofChange s) apart w args) (s.post enc C.prog fn apart fresh handsOn again) := by
 refine returnsInHanded_of_calls own started noInit witness ?_;intro w tape i _ hsh _ hok hpre hholds;obtain ⟨_, _, _, fn', hfn', _, _, _, _, hval⟩ := hok;have e : fn' = fn := Option.some.inj (hfn'.symm.trans hfn);subst e;obtain ⟨⟨⟨ds, gs, before, hw, hc⟩, hx⟩, hz⟩ := hpre;have hw' := DataW.Whole.of_heap (w' := w.forCall tape i) (by rfl) hw;refine (contract (w.forCall tape i) w.heap.size i.args ds gs before hval hw' (hX _ _ _ (by rfl) hx) hsh).mono fun e W' ⟨v, he, hp⟩ => ?_;subst he;exact ChangeSpec.post_blind hp
def laidL : List (String × DataW Unit) := [("math/bits.deBruijn32tab", Rows.laid_math_bits_deBruijn32tab), ("math/bits.deBruijn64tab", Rows.laid_math_bits_deBruijn64tab), ("internal/strconv.uint64pow10", Rows.laid_internal_strconv_uint64pow10), ("unicode/utf8.acceptRanges", Rows.laid_unicode_utf8_acceptRanges), ("strconv.ErrRange", Rows.laid_strconv_ErrRange), ("strconv.ErrSyntax", Rows.laid_strconv_ErrSyntax), ("merestone/course.sines", Rows.laid_merestone_course_sines), ("unicode/utf8.first", Rows.laid_unicode_utf8_first)]
theorem yAe : (Rows.laid_merestone_course_sines : DataW Unit) = Lib.tabData .i64 Cs.T := by kernel_rfl
theorem yCS : (Rows.laid_internal_strconv_uint64pow10 : DataW Unit) = Lib.tabData .u64 Lib.pow10Tab := by kernel_rfl
theorem yC0 {P : Program} {W : World} {name : String} {g : Nat} {cs : Array Value} (h1 : P.globalNamed name = some g) (h3 : W.var? P name = some cs) : g < W.heap.size := by
 unfold World.var? at h3;rw [h1] at h3;simp only [Option.bind_some] at h3;cases hh : W.heap[g]? with
 | none => rw [hh] at h3; cases h3
 | some o => exact (Array.getElem?_eq_some_iff.1 hh).1
theorem yCf {W : World} (hsh : W.ShapedOpen Tryz.prog) (h : laidMetH Tryz.prog laidL W) : Env W := by
 rw [MakeChecks.laidMetH_plain _ _ _ (by kernel_rfl)] at h;obtain ⟨ps, hl, _, _⟩ := h;have gl : 9 <= W.heap.size := by
  obtain ⟨g, t, cs, fuel, p, hg, _, hv, _⟩ := y3K hl ("math/bits.deBruijn64tab", Rows.laid_math_bits_deBruijn64tab) (by simp [laidL]);obtain rfl := Option.some.inj ((show Tryz.prog.globalNamed "math/bits.deBruijn64tab" = some 3 by kernel_rfl).symm.trans hg);have h1 := yC0 hg hv;obtain ⟨g2, t2, cs2, fuel2, p2, hg2, _, hv2, _⟩ := y3K hl ("merestone/course.sines", Rows.laid_merestone_course_sines) (by simp [laidL]);obtain rfl := Option.some.inj ((show Tryz.prog.globalNamed "merestone/course.sines" = some 8 by kernel_rfl).symm.trans hg2);have h2 := yC0 hg2 hv2;omega
 have hs : Lib.TabIs Tryz.prog W "merestone/course.sines" .i64 Cs.T := yBz (g := 8) (t := 309) (e := 3) (n := 91) (by kernel_rfl) (by kernel_rfl) (by kernel_rfl) (by kernel_rfl) (by kernel_rfl) (by kernel_rfl) hl
  (by rw [<- yAe]; simp [laidL])
 refine ⟨⟨by omega, fun k hk => ?_⟩, gl, ?_, ?_, ?_, ?_⟩
 ·have := hs.cell (g := 8) (by kernel_rfl) k (by rw [Cs.y7c]; exact hk);rw [this];rfl
 ·exact yBz (g := 1) (t := 264) (e := 210) (n := 20) (by kernel_rfl) (by kernel_rfl) (by kernel_rfl) (by kernel_rfl) (by kernel_rfl) (by kernel_rfl) hl
   (by rw [<- yCS]; simp [laidL])
 ·exact cell_of_shapedOpen_int (t := 3) (zero := #[.int .i64 0]) hsh (of_decide_eq_true (by kernel_rfl)) (by kernel_rfl) (by kernel_rfl) (by kernel_rfl) (by kernel_rfl) (by kernel_rfl)
 ·exact y7k (g := 4) (t := 173) (by kernel_rfl) (by kernel_rfl) (by kernel_rfl) hl (show ("strconv.ErrSyntax", Rows.laid_strconv_ErrSyntax) ∈ laidL by simp [laidL])
 exact y7k (g := 5) (t := 173) (by kernel_rfl) (by kernel_rfl) (by kernel_rfl) hl (show ("strconv.ErrRange", Rows.laid_strconv_ErrRange) ∈ laidL by simp [laidL])
theorem yA7 (os : Os) (args : Array Value) : laidMetH Tryz.prog laidL ((World.laidAll Tryz.prog os laidL).forCall (fun _ _ => 0) ⟨#[], args, []⟩).memory := by
 rw [MakeChecks.laidMetH_plain _ _ _ (by kernel_rfl)];exact laidMet_laidAll _ (by kernel_rfl) (by kernel_rfl)
theorem y7P (os : Os) (args : Array Value) : ((World.laidAll Tryz.prog os laidL).forCall (fun _ _ => 0) ⟨#[], args, []⟩).Shaped Tryz.prog :=
 World.shaped_of_ZipB (by kernel_rfl) (by kernel_rfl)
end
end Go.Proofs.YtccikcpcfdjobaaGreatDoor
