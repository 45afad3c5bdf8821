/-
  What the claims of layer deed need of the texts DLf, Rw, DOpn, DJn.
-/
import Derived.ChangeMaps5
import Derived.JoinedOf
import Derived.Test.YtccikcpcfdjobaaGreatDoorBr42
import Derived.Test.YtccikcpcfdjobaaGreatDoorBr09
import Derived.Test.YtccikcpcfdjobaaGreatDoorTie
import Derived.Test.YtccikcpcfdjobaaGreatDoorBr33
import Derived.Test.YtccikcpcfdjobaaGreatDoorCards
import Derived.Test.YtccikcpcfdjobaaGreatDoorBz
set_option linter.unusedVariables false
set_option linter.unusedSimpArgs false
set_option maxHeartbeats 8000000
set_option maxRecDepth 100000
namespace Go.Proofs.YtccikcpcfdjobaaGreatDoor
section
open Go.RowKit
structure Lv (w : World) (v : Fv) (f : Dd.Fd) (W : World) : Prop where
 b : Below w.heap.size w W
 e : Env W
 k : Bk W w.heap.size 27 #[.slice v.a1 f.st.length v.c1, .slice v.a2 f.li.length v.c2, .slice v.a3 f.pa.length v.c3, .slice v.a4 f.va.length v.c4]
 r : FRw W W.heap.size v f
theorem FRw.more {w : World} {B B' : Nat} {v : Fv} {f : Dd.Fd} (h : FRw w B v f) (hB : B ≤ B') : FRw w B' v f :=
 ⟨h.st.more hB, h.li.more hB, h.pa.more hB, h.va.more hB, h.k1, h.k2, h.k3, h.l1, h.l2, h.l3, h.l4, h.n1, h.n2, h.n3⟩
theorem Lv.new {w : World} {v : Fv} {f : Dd.Fd} (hE : Env w) (hF : FRw w w.heap.size v f) : Lv w v f (w.alloc (.cells #[.slice v.a1 f.st.length v.c1, .slice v.a2 f.li.length v.c2, .slice v.a3 f.pa.length v.c3, .slice v.a4 f.va.length v.c4] 27)) :=
 have hb := (Below.refl w.heap.size w).alloc (Nat.le_refl _) (.cells #[.slice v.a1 f.st.length v.c1, .slice v.a2 f.li.length v.c2, .slice v.a3 f.pa.length v.c3, .slice v.a4 f.va.length v.c4] 27)
 ⟨hb, hE.step hb, Bk.new _ _ _, (hF.below hb (Nat.le_refl _)).more hb.size⟩
theorem Lv.next {w W W' : World} {v : Fv} {f : Dd.Fd} (h : Lv w v f W) (hb : Below W.heap.size W W') : Lv w v f W' :=
 ⟨h.b.trans (hb.mono h.b.size), h.e.step hb, h.k.below hb h.k.lt, (h.r.below hb (Nat.le_refl _)).more hb.size⟩
end

section
open Go.ChangeShapes Go.WideShapes Go.ChangeAt Go.RowKit Go.Deep Go.Joins
theorem wrap_both {H : Type} {enc : TypeId × Value → H} {a : Assume} {C : Checked} {os : Os} {f : FuncId} {fn : Func} {s : ChangeSpec} {cnds : List PathCond} {apart fresh handsOn again : Bool} {X : World → Array Value → Prop}
  (hX : ∀ (w w' : World) (args : Array Value), w.heap = w'.heap → X w args → X w' args)
  (own : ownKnob C.prog.godebug = none) (started : os.Started) (noInit : C.prog.inits.idxOf? f = none) (hfn : C.prog.funcs[f]? = some fn)
  (witness : ∃ (w : World) (tape : Tape) (i : Input), w.os = os ∧ (w.forCall tape i).Shaped C.prog ∧ i.vars = [] ∧ Input.okWide C.prog (w.forCall tape i) .any w.heap.size f i ∧
   ((s.pre enc C.prog fn cnds apart (w.forCall tape i).memory i.args ∧ X (w.forCall tape i).memory i.args) ∧ sizedMet enc C.prog fn (OpenSpec.ofChange s) apart (w.forCall tape i).memory i.args) ∧ a.holds C.prog (lone (Frame.enter C.prog f i.args .normal) [] (w.forCall tape i)))
  (contract : ∀ (W : World) (base : Nat) (args : Array Value) (ds gs : List (DataW H)) (before : List MemPlace),
   (∀ (j : Nat) t v, fn.params[j]? = some t → args[j]? = some v → Value.okWide C.prog W .any base t v) →
   DataW.Whole enc C.prog fn.params.toList s.vars apart W args.toList ds gs before →
   X W args → W.ShapedOpen C.prog →
   Calls C.prog f args W fun e W' => ∃ v, e = .returned v ∧ s.post enc C.prog fn apart fresh handsOn again W args v W') :
  ReturnsInHanded a C os f .any (fun w args => (s.pre enc C.prog fn cnds apart w args ∧ X w args) ∧ sizedMet enc C.prog fn (OpenSpec.ofChange s) apart w args) (s.post enc C.prog fn apart fresh handsOn again) := by
 refine returnsInHanded_of_calls own started noInit witness ?_
 intro w tape i _ hsh _ hok hpre hholds
 obtain ⟨_, _, _, fn', hfn', _, _, _, _, hval⟩ := hok
 have e : fn' = fn := Option.some.inj (hfn'.symm.trans hfn)
 subst e
 obtain ⟨⟨⟨ds, gs, before, hw, hc⟩, hx⟩, hz⟩ := hpre
 have hw' := DataW.Whole.of_heap (w' := w.forCall tape i) (by rfl) hw
 refine (contract (w.forCall tape i) w.heap.size i.args ds gs before hval hw' (hX _ _ _ (by rfl) hx) hsh).mono fun e W' ⟨v, he, hp⟩ => ?_
 subst he
 exact ChangeSpec.post_blind hp
def laidL : List (String × DataW Unit) := [("math/bits.deBruijn32tab", Rows.laid_math_bits_deBruijn32tab), ("math/bits.deBruijn64tab", Rows.laid_math_bits_deBruijn64tab), ("internal/strconv.uint64pow10", Rows.laid_internal_strconv_uint64pow10), ("unicode/utf8.acceptRanges", Rows.laid_unicode_utf8_acceptRanges), ("strconv.ErrRange", Rows.laid_strconv_ErrRange), ("strconv.ErrSyntax", Rows.laid_strconv_ErrSyntax), ("merestone/course.sines", Rows.laid_merestone_course_sines), ("unicode/utf8.first", Rows.laid_unicode_utf8_first)]
theorem sines_tab : (Rows.laid_merestone_course_sines : DataW Unit) = Lib.tabData .i64 Cs.T := by kernel_rfl
theorem pow_tab : (Rows.laid_internal_strconv_uint64pow10 : DataW Unit) = Lib.tabData .u64 Lib.pow10Tab := by kernel_rfl
theorem var_lt {P : Program} {W : World} {name : String} {g : Nat} {cs : Array Value} (h1 : P.globalNamed name = some g) (h3 : W.var? P name = some cs) : g < W.heap.size := by
 unfold World.var? at h3
 rw [h1] at h3
 simp only [Option.bind_some] at h3
 cases hh : W.heap[g]? with
 | none => rw [hh] at h3; cases h3
 | some o => exact (Array.getElem?_eq_some_iff.1 hh).1
theorem env_of {W : World} (hsh : W.ShapedOpen Tryz.prog) (h : laidMetH Tryz.prog laidL W) : Env W := by
 rw [MakeChecks.laidMetH_plain _ _ _ (by kernel_rfl)] at h
 obtain ⟨ps, hl, _, _⟩ := h
 have gl : 9 ≤ W.heap.size := by
  obtain ⟨g, t, cs, fuel, p, hg, _, hv, _⟩ := laid_at hl ("math/bits.deBruijn64tab", Rows.laid_math_bits_deBruijn64tab) (by simp [laidL])
  obtain rfl := Option.some.inj ((show Tryz.prog.globalNamed "math/bits.deBruijn64tab" = some 3 by kernel_rfl).symm.trans hg)
  have h1 := var_lt hg hv
  obtain ⟨g2, t2, cs2, fuel2, p2, hg2, _, hv2, _⟩ := laid_at hl ("merestone/course.sines", Rows.laid_merestone_course_sines) (by simp [laidL])
  obtain rfl := Option.some.inj ((show Tryz.prog.globalNamed "merestone/course.sines" = some 8 by kernel_rfl).symm.trans hg2)
  have h2 := var_lt hg2 hv2
  omega
 have hs : Lib.TabIs Tryz.prog W "merestone/course.sines" .i64 Cs.T := tab_of (g := 8) (t := 309) (e := 3) (n := 91) (by kernel_rfl) (by kernel_rfl) (by kernel_rfl) (by kernel_rfl) (by kernel_rfl) (by kernel_rfl) hl
  (by rw [← sines_tab]; simp [laidL])
 refine ⟨⟨by omega, fun k hk => ?_⟩, gl, ?_, ?_, ?_, ?_⟩
 ·have := hs.cell (g := 8) (by kernel_rfl) k (by rw [Cs.T_length]; exact hk)
  rw [this]
  rfl
 ·exact tab_of (g := 1) (t := 264) (e := 210) (n := 20) (by kernel_rfl) (by kernel_rfl) (by kernel_rfl) (by kernel_rfl) (by kernel_rfl) (by kernel_rfl) hl
   (by rw [← pow_tab]; simp [laidL])
 ·exact cell_of_shapedOpen_int (t := 3) (zero := #[.int .i64 0]) hsh (of_decide_eq_true (by kernel_rfl)) (by kernel_rfl) (by kernel_rfl) (by kernel_rfl) (by kernel_rfl) (by kernel_rfl)
 ·exact iface_of (g := 4) (t := 173) (by kernel_rfl) (by kernel_rfl) (by kernel_rfl) hl (show ("strconv.ErrSyntax", Rows.laid_strconv_ErrSyntax) ∈ laidL by simp [laidL])
 ·exact iface_of (g := 5) (t := 173) (by kernel_rfl) (by kernel_rfl) (by kernel_rfl) hl (show ("strconv.ErrRange", Rows.laid_strconv_ErrRange) ∈ laidL by simp [laidL])
theorem laid_door (os : Os) (args : Array Value) : laidMetH Tryz.prog laidL ((World.laidAll Tryz.prog os laidL).forCall (fun _ _ => 0) ⟨#[], args, []⟩).memory := by
 rw [MakeChecks.laidMetH_plain _ _ _ (by kernel_rfl)]
 exact laidMet_laidAll _ (by kernel_rfl) (by kernel_rfl)
theorem shaped_door (os : Os) (args : Array Value) : ((World.laidAll Tryz.prog os laidL).forCall (fun _ _ => 0) ⟨#[], args, []⟩).Shaped Tryz.prog :=
 World.shaped_of_ZipB (by kernel_rfl) (by kernel_rfl)
end

section
open Go.ChangeShapes Go.WideShapes Go.ChangeAt Go.RowKit Go.Deep Go.Joins
theorem Tryz.cellsStr : Tryz.prog.cellsOf 9 = 1 := by kernel_rfl
theorem Tryz.cellsSta : Tryz.prog.cellsOf 66 = 2 := by kernel_rfl
theorem Tryz.cellsPar : Tryz.prog.cellsOf 68 = 4 := by kernel_rfl
theorem Tryz.cellsFld : Tryz.prog.cellsOf 27 = 4 := by kernel_rfl
theorem Tryz.cellsS1 : Tryz.prog.cellsOf 22 = 1 := by kernel_rfl
theorem Tryz.cellsS2 : Tryz.prog.cellsOf 23 = 1 := by kernel_rfl
theorem Tryz.cellsS3 : Tryz.prog.cellsOf 24 = 1 := by kernel_rfl
theorem Tryz.cellsS4 : Tryz.prog.cellsOf 25 = 1 := by kernel_rfl
section
variable {H : Type} {enc : TypeId × Value → H} {w : World} {base : Nat} {spare : Nat → Bool} {held : Bool} {b0 : Nat} {r : Reach}
theorem els_of {α : Type} [Inhabited α] {P : Program} {cell : α → List Value} {n : Nat} {t e : TypeId} {Q : α → Prop} (ht : P.underlying t = some (.slice e)) (hce : P.cellsOf e = n) (hc : ∀ a, (cell a).length = n) (hn : 0 < n)
  (he : ∀ fuel cs x, DataW.trod enc P w base spare held fuel e cs = some x → ∃ a, cs = cell a ∧ Q a)
  {fuel : Nat} {cs : List Value} {x : DataW H × List MemPlace} (hf : DataW.trod enc P w base spare held fuel t cs = some x) :
  ∃ (A : Option Addr) (c : Nat) (ys : List α), cs = [.slice A ys.length c] ∧ Rd w w.heap.size n A ys.length (ys.flatMap cell) ∧ ys.length ≤ 9223372036854775807 ∧ ys.length ≤ c ∧ ∀ y ∈ ys, Q y := by
 rcases open_slice ht hf with ⟨hcs, hx⟩ | ⟨a, len, cap, m, k, D, Pl, hcs, _, hl, hm, hmm, hx, hel⟩
 ·exact ⟨none, 0, [], hcs, Rd.nil _ _ _ _, by simp, by simp, by simp⟩
 ·have hlm : len ≤ m := by rw [hmm]; split <;> omega
  have each : ∀ i, i < len → ∃ x : α, (∀ j, j < n → w.cell? (a.add (i * n + j)) = (cell x)[j]?) ∧ Q x := by
   intro i hi
   obtain ⟨cs', h1, h2⟩ := hel i (by omega)
   rw [hce] at h1
   obtain ⟨_, hlen, hcell⟩ := World.cells?_some h1
   obtain ⟨x, rfl, hq⟩ := he _ _ _ h2
   refine ⟨x, fun j hj => ?_, hq⟩
   have := hcell j hj
   rwa [add_add] at this
  obtain ⟨V, hV⟩ := choose_lt each
  have hlen : ((List.range len).map V).length = len := by simp
  refine ⟨some a, cap, (List.range len).map V, by rw [hlen]; exact hcs, ⟨by rw [flat_length hc], fun h0 => ?_⟩, by unfold maxLen at hm; simp; omega, by rw [hlen]; exact hl, fun b hb => ?_⟩
  ·rw [hlen] at h0 ⊢
   obtain ⟨v0, hv0⟩ : ∃ v, (cell (V 0))[0]? = some v := by
    cases hg : (cell (V 0))[0]? with
    | none => rw [List.getElem?_eq_none_iff, hc] at hg; omega
    | some v => exact ⟨v, rfl⟩
   obtain ⟨b', off', hab, hb'⟩ := plain_of_cell (((hV 0 h0).1 0 hn).trans hv0)
   obtain ⟨b, off, s⟩ := a
   obtain ⟨hb, rfl⟩ : b < w.heap.size ∧ s = none := by
    simp only [Addr.add, Nat.zero_mul, Nat.add_zero, if_true, Addr.mk.injEq] at hab
    exact ⟨by omega, hab.2.2⟩
   refine ⟨b, off, rfl, hb, fun j hj => ?_⟩
   have hdiv : j / n < len := Nat.div_lt_of_lt_mul (by rwa [Nat.mul_comm])
   have hq := (hV (j / n) hdiv).1 (j % n) (Nat.mod_lt _ hn)
   have hr := flat_at hc ((List.range len).map V) (k := j / n) (by rw [hlen]; exact hdiv) (Nat.mod_lt j hn)
   have hjn : j / n * n + j % n = j := by rw [Nat.mul_comm]; exact Nat.div_add_mod j n
   rw [hjn] at hq hr
   rw [add_plain] at hq
   simp only [List.getElem_map, List.getElem_range] at hr
   exact hq.trans hr.symm
  ·obtain ⟨i, hi, rfl⟩ := List.mem_map.1 hb
   exact (hV i (List.mem_range.1 hi)).2
theorem trod_text {fuel : Nat} {cs : List Value} {x : DataW H × List MemPlace} (h : DataW.trod enc Tryz.prog w base spare held fuel 9 cs = some x) : ∃ s : Cs.Bs, cs = [.string ⟨s.toArray⟩] ∧ s.length ≤ 9223372036854775807 := by
 obtain ⟨⟨⟨l⟩⟩, h1, _, h2⟩ := DataW.trod_string Tryz.underlying9 h
 refine ⟨l, h1, ?_⟩
 have e : (⟨⟨l⟩⟩ : ByteArray).size = l.length := rfl
 unfold maxLen at h2
 omega
theorem trod_text1 {fuel : Nat} {cs : List Value} {x : DataW H × List MemPlace} (h : DataW.trod enc Tryz.prog w base spare held fuel 9 cs = some x) : ∃ s : Cs.Bs, cs = [sv s] ∧ s.length ≤ 9223372036854775807 := trod_text h
theorem trod_station {fuel : Nat} {cs : List Value} {x : DataW H × List MemPlace} (h : DataW.trod enc Tryz.prog w base spare held fuel 66 cs = some x) : ∃ v : Cs.Bs × Int, cs = scell v ∧ v.1.length ≤ 9223372036854775807 := by
  obtain ⟨y0, y1, n, rfl, hl, g0, g1⟩ := trod_struct2 Tryz.underlying66 h
  rw [Tryz.cellsSta] at hl
  match cs, hl with
  | [v0, v1], _ =>
    simp only [Tryz.cellsInt, Tryz.cellsStr, List.drop_zero, List.drop_succ_cons, List.take_succ_cons, List.take_zero] at g0 g1
    obtain ⟨a, e0, w0⟩ := trod_text g0
    obtain ⟨b, e1, _, w1⟩ := DataW.trod_int Tryz.underlying3 g1
    simp only [List.cons.injEq, and_true] at e0 e1
    subst e0; subst e1
    exact ⟨(a, b), rfl, w0⟩
theorem trod_parcel {fuel : Nat} {cs : List Value} {x : DataW H × List MemPlace} (h : DataW.trod enc Tryz.prog w base spare held fuel 68 cs = some x) : ∃ v : Dd.Pa, cs = pcell v ∧ v.name.length ≤ 9223372036854775807 := by
  obtain ⟨xs, n, _, rfl, hl, hlen, hf⟩ := DataW.trod_struct Tryz.underlying68 h
  rw [Tryz.cellsPar] at hl
  match xs, hlen with
  | [y0, y1, y2, y3], _ =>
    have f0 := hf 0 _ rfl
    have f1 := hf 1 _ rfl
    have f2 := hf 2 _ rfl
    have f3 := hf 3 _ rfl
    match cs, hl with
    | [v0, v1, v2, v3], _ =>
      simp only [Tryz.cellsInt, Tryz.cellsStr, List.drop_zero, List.drop_succ_cons, List.take_succ_cons, List.take_zero, List.getElem?_cons_zero, List.getElem?_cons_succ] at f0 f1 f2 f3
      obtain ⟨a, e0, w0⟩ := trod_text f0
      obtain ⟨b, e1, _, w1⟩ := DataW.trod_int Tryz.underlying3 f1
      obtain ⟨c, e2, _, w2⟩ := DataW.trod_int Tryz.underlying3 f2
      obtain ⟨d, e3, _, w3⟩ := DataW.trod_int Tryz.underlying3 f3
      cases e0; cases e1; cases e2; cases e3
      exact ⟨⟨a, b, c, d⟩, rfl, w0⟩
instance : Inhabited Dd.Pa := ⟨⟨[], 0, 0, 0⟩⟩
instance : Inhabited Dd.Ca := ⟨Dd.ca0⟩
theorem open_field {v : Value} {d : DataW H} {p : List MemPlace} (hv : Value.okWide Tryz.prog w r b0 27 v) (h : DataW.Trod enc Tryz.prog w base spare held 27 v d p) :
    ∃ (u : Fv) (f : Dd.Fd), v = fval u f ∧ FRw w w.heap.size u f := by
  obtain ⟨cs, rfl, hsz⟩ := okWide_struct Tryz.underlying27 hv
  obtain ⟨fuel, hfu⟩ := h
  obtain ⟨xs, n, _, _, hl, hlen, hf⟩ := DataW.trod_struct Tryz.underlying27 hfu
  rw [Tryz.cellsFld] at hl
  obtain ⟨cs⟩ := cs
  have hl : cs.length = 4 := hl
  match xs, hlen with
  | [y0, y1, y2, y3], _ =>
    have f0 := hf 0 _ rfl
    have f1 := hf 1 _ rfl
    have f2 := hf 2 _ rfl
    have f3 := hf 3 _ rfl
    match cs, hl with
    | [v0, v1, v2, v3], _ =>
      simp only [Value.cells, Tryz.cellsS1, Tryz.cellsS2, Tryz.cellsS3, Tryz.cellsS4, List.drop_zero, List.drop_succ_cons, List.take_succ_cons, List.take_zero, List.getElem?_cons_zero, List.getElem?_cons_succ] at f0 f1 f2 f3
      obtain ⟨A1, c1, st, e0, r1, l1, k1, n1⟩ := els_of (cell := scell) (n := 2) (Q := fun v => v.1.length ≤ 9223372036854775807) Tryz.underlying22 Tryz.cellsSta (fun _ => rfl) (by decide) (fun fuel cs x hx => trod_station hx) f0
      obtain ⟨A2, c2, li, e1, r2, l2, k2, n2⟩ := els_of (cell := fun s => [sv s]) (n := 1) (Q := fun v => v.length ≤ 9223372036854775807) Tryz.underlying23 Tryz.cellsStr (fun _ => rfl) (by decide) (fun fuel cs x hx => trod_text1 hx) f1
      obtain ⟨A3, c3, pa, e2, r3, l3, k3, n3⟩ := els_of (cell := pcell) (n := 4) (Q := fun v => v.name.length ≤ 9223372036854775807) Tryz.underlying24 Tryz.cellsPar (fun _ => rfl) (by decide) (fun fuel cs x hx => trod_parcel hx) f2
      obtain ⟨A4, c4, va, e3, r4, l4, _, _⟩ := els_of (cell := vcell) (n := 2) (Q := fun _ => True) Tryz.underlying25 Tryz.cellsVar (fun _ => rfl) (by decide) (fun fuel cs x hx => trod_variation hx) f3
      cases e0; cases e1; cases e2; cases e3
      have hw : ∀ l : List Cs.Bs, l.flatMap (fun s => [sv s]) = wcells l := fun l => by
        induction l with
        | nil => rfl
        | cons a t ih => rw [List.flatMap_cons, ih]; rfl
      rw [hw] at r2
      exact ⟨⟨A1, c1, A2, c2, A3, c3, A4, c4⟩, ⟨st, li, pa, va⟩, rfl, ⟨r1, r2, r3, r4, k1, k2, k3, l1, l2, l3, l4, n1, n2, n3⟩⟩
end
end

section
theorem joinedFacts_of {P : Program} {f : FuncId} {fn : Func} {s : ChangeSpec} {c : OpenClaim} (k1 : (c.wf (OpenSpec.ofChange s)) = true) (k2 : (laidOutB P) = true) (k3 : (mapsRowed P) = true) (k4 : (fn.params.all (P.readableRec ·)) = true) (k5 : (namedTie P c.named s.vars) = true) (k6 : ((c.stops == [])) = true) (k7 : ((P.stops == [])) = true) (k8 : ((c.knobs == [])) = true) (k9 : ((P.stopKnobs == [])) = true) (k10 : ((c.inPlace == P.inPlace f)) = true) (k11 : ((c.unfollowed == P.unfollowed f)) = true) (k12 : ((c.recurses == P.recurses f)) = true) (k13 : ((c.named == P.varsNamed f)) = true) (k14 : ((c.maps == (fn.params.toList ++ s.plain.varTypes P).any (P.mapsRec ·))) = true) (k15 : ((c.ifaces == (fn.params.toList ++ s.plain.varTypes P).any (P.ifacesRec ·))) = true) (k16 : ((c.mapsOut == P.mapsAmong fn.resultTypes.toList)) = true) (k17 : ((c.loops == (fn.params.toList ++ s.plain.varTypes P).any (P.loopsFrom ·))) = true) (k17b : ((c.wideKeys == (fn.params.toList ++ s.plain.varTypes P ++ fn.resultTypes.toList).any (P.wideKeysFrom ·))) = true) (k18 : (s.vars.all (P.varReadable ·)) = true) (k19 : (fn.resultTypes.all (fun t => P.readableRec t && decide (t < P.types.size))) = true) (k20 : ((c.ifacesOut == fn.resultTypes.toList.any (P.ifacesRec ·))) = true) (k21 : ((c.loopsOut == fn.resultTypes.toList.any (P.loopsFrom ·))) = true) (k22 : ((c.plainKeys == P.plainKeys)) = true) (k23 : (c.shortTexts.isNone) = true) (k23b : (P.stopsHeard) = true) (k24 : (P.mayEnter) = true) (k24b : ((c.lifted == P.liftsFinal)) = true) (k24c : ((P.make == some c.make)) = true) (k25 : ((c.kinds == (if c.domain.isEmpty then [] else fn.params.toList.map fun t => match P.underlying t with | some (.int k) => some k | _ => none))) = true) (k26 : ((c.pinned == c.pinnedBy)) = true) (k27 : ((c.veiled == (fn.params.toList ++ s.plain.varTypes P ++ fn.resultTypes.toList).any (P.veiledRec ·))) = true) (k28 : (c.veiledFits P fn.params.toList (fn.params.toList ++ s.plain.varTypes P ++ fn.resultTypes.toList)) = true) : joinedFacts P f fn s c = true := by
 unfold joinedFacts
 simp only [Bool.and_eq_true]
 exact ⟨⟨⟨⟨⟨⟨⟨⟨⟨⟨⟨⟨⟨⟨⟨⟨⟨⟨⟨⟨⟨⟨⟨⟨⟨⟨⟨⟨⟨⟨⟨k1, k2⟩, k3⟩, k4⟩, k5⟩, k6⟩, k7⟩, k8⟩, k9⟩, k10⟩, k11⟩, k12⟩, k13⟩, k14⟩, k15⟩, k16⟩, k17⟩, k17b⟩, k18⟩, k19⟩, k20⟩, k21⟩, k22⟩, k23⟩, k23b⟩, k24⟩, k24b⟩, k24c⟩, k25⟩, k26⟩, k27⟩, k28⟩
theorem joined_k2 : (laidOutB Tryz.prog) = true := by kernel_rfl
theorem joined_k3 : (mapsRowed Tryz.prog) = true := by kernel_rfl
theorem joined_k7 : ((Tryz.prog.stops == [])) = true := by kernel_rfl
theorem joined_k9 : ((Tryz.prog.stopKnobs == [])) = true := by kernel_rfl
theorem joined_k23b : (Tryz.prog.stopsHeard) = true := by kernel_rfl
theorem joined_k24 : (Tryz.prog.mayEnter) = true := by kernel_rfl
theorem joined_looks : true = Tryz.prog.looks [] := by kernel_rfl
end
end Go.Proofs.YtccikcpcfdjobaaGreatDoor
