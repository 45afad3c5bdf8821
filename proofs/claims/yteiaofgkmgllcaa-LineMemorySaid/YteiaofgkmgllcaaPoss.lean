/-
  comparisons, and possible.
-/
import Derived.Maps.Own
import Derived.Maps.Views
import Derived.Test.YteiaofgkmgllcaaEnds
import Derived.Test.YteiaofgkmgllcaaAll
import Derived.Deep.RegionHeld3
import Derived.Test.YteiaofgkmgllcaaEnd
set_option linter.unusedVariables false
set_option linter.unusedSimpArgs false
namespace Go.Proofs.Yteiaofgkmgllcaa
open Go.RowKit Go.Maps

/-- How an element of a map of functions reads: its function's number. -/
def fnNo : Value → Int
  | .func (.func n) a b => if a.size = 0 ∧ b.size = 0 then n else -1
  | _ => -1
def fnElem (v : Value) : Option (DataW Unit × List MemPlace) := some (.lit (.int .i64 (fnNo v)), [])
theorem fnElem_inv {v : Value} {n : Nat} {ps : List MemPlace} (h : fnElem v = some (.lit (.int .i64 (n : Int)), ps)) : v = .func (.func n) #[] #[] := by
  simp only [fnElem, Option.some.injEq, Prod.mk.injEq, DataW.lit.injEq, Lit.int.injEq, true_and] at h
  have h1 := h.1
  unfold fnNo at h1
  split at h1
  · rename_i m a b
    split at h1
    · rename_i hz
      obtain rfl : m = n := by exact_mod_cast h1
      rw [Array.eq_empty_of_size_eq_zero hz.1, Array.eq_empty_of_size_eq_zero hz.2]
    · omega
  · omega

def cmpD : DataW Unit := (((DataW.map []).put (.int .i64 0) (.lit (.int .i64 71))).put (.int .i64 1) (.lit (.int .i64 72))).put (.int .i64 2) (.lit (.int .i64 73))
def IsCmp (w : World) (g : Nat) : Prop := w.ownsMap Try.prog 83 fnElem g 3 cmpD

theorem IsCmp.below {w w' : World} {g C : Nat} (h : IsCmp w g) (hb : Below C w w') (hg : g < C) : IsCmp w' g := by
  obtain ⟨es, clock, h1, h2⟩ := h
  exact ⟨es, clock, (hb.block g hg).trans h1, h2⟩
theorem IsCmp.alloc {w : World} {g : Nat} (h : IsCmp w g) (o : Obj) : IsCmp (w.alloc o) g := World.ownsMap.alloc h o

theorem IsCmp.far {w : World} {g : Nat} (h : IsCmp w g) {p : Addr} (hp : g ≠ p.block) (u : Value) : IsCmp (w.setCell p u) g := by
  obtain ⟨es, clock, h1, h2⟩ := h
  exact ⟨es, clock, (Below.heap_setCell w p u g hp).trans h1, h2⟩

theorem keyedQ : Keyed Try.prog 83 := int_keyed Try.underlying83

theorem wpList_insert_own {H : Type} {P : Program} (w : World) {ops : Array Oper} {rest : List Oper} {o : Oper} {a : Act} {Q : Exit → Act → World → Prop}
    (hg : o.guard = none) (m x v : Operand) (t : TypeId) (hop : o.op = Op.insert t m x v)
    (k e : TypeId) (K : Keyed P k) (ht : P.underlying t = some (.map k e)) (R : Value → Option (DataW H × List MemPlace)) (b n : Nat) (D : DataW H)
    (hm : a.eval m = .map (some b)) (hown : w.ownsMap P k R b n D) (hn : n < maxLen) (key val : Value) (kl : Lit) (hx : a.eval x = key) (hv : a.eval v = val) (hkey : keyOf P k key = some kl)
    (d : DataW H) (ps : List MemPlace) (hval : R val = some (d, ps))
    (hK : ∀ w', w'.ownsMap P k R b (n + 1) (D.put kl d) → w.grownBy w' (some b) → wpList P ops Q rest (a.put o.dst undef) w') :
    wpList P ops Q (o :: rest) a w := by
  refine wpList_plain hg fun K' hK' => ?_
  obtain ⟨w', hrun, r1, r2⟩ := hown.update K ht hn hkey hval
  unfold Oper.wp
  simp [execOp, hop, hm, hx, hv, hrun, Result.andThen]
  exact hK' _ _ (hK w' r1 r2)

set_option maxRecDepth 100000 in
set_option maxHeartbeats 400000 in
theorem comparisons_any (w : World) :
    Calls Try.prog 46 #[] w fun x w' => ∃ g, x = .returned (.map (some g)) ∧ w.heap.size ≤ g ∧ IsCmp w' g ∧ Below w.heap.size w w' := by
  have hmm := @run_makeMap Try.prog
  have hown := World.ownsMap_made w Try.prog 83 fnElem
  go_enter Try.func46, Try.ntmps46
  go_wp2_with (first
    | (refine wpList_insert_own _ rfl _ _ _ 81 rfl 83 _ keyedQ Try.underlying81 fnElem w.heap.size 0 _ rfl hown (by decide) (.int .i64 0) (.func (.func 71) #[] #[]) (.int .i64 0) rfl rfl (keyOf_int_mk Try.underlying83 rfl) _ _ rfl ?_; intro w1 hown1 hg1)
    | (refine wpList_insert_own _ rfl _ _ _ 81 rfl 83 _ keyedQ Try.underlying81 fnElem w.heap.size 1 _ rfl hown1 (by decide) (.int .i64 1) (.func (.func 72) #[] #[]) (.int .i64 1) rfl rfl (keyOf_int_mk Try.underlying83 rfl) _ _ rfl ?_; intro w2 hown2 hg2)
    | (refine wpList_insert_own _ rfl _ _ _ 81 rfl 83 _ keyedQ Try.underlying81 fnElem w.heap.size 2 _ rfl hown2 (by decide) (.int .i64 2) (.func (.func 73) #[] #[]) (.int .i64 2) rfl rfl (keyOf_int_mk Try.underlying83 rfl) _ _ rfl ?_; intro w3 hown3 hg3))
  go_ret
  have hB0 : Below w.heap.size w (w.alloc (.map #[] 0)) := (Below.refl _ _).alloc (Nat.le_refl _) _
  have hB1 := hB0.grown hg1 hB0.size (fun k e => by cases e; exact Nat.le_refl _)
  have hB2 := hB1.grown hg2 hB1.size (fun k e => by cases e; exact Nat.le_refl _)
  have hB3 := hB2.grown hg3 hB2.size (fun k e => by cases e; exact Nat.le_refl _)
  exact ⟨_, rfl, Nat.le_refl _, hown3, hB3⟩

theorem zeroFn (w : World) : (zeroValue 80).run Try.prog w = .ok .nilFunc w := by kernel_rfl

/-- What the map says of a question. -/
theorem IsCmp.look {w : World} {g : Nat} (h : IsCmp w g) :
    (Instr.lookup 81 (.map (some g)) (.int .i64 0) false).run Try.prog w = .ok (.func (.func 71) #[] #[]) w ∧
    (Instr.lookup 81 (.map (some g)) (.int .i64 1) false).run Try.prog w = .ok (.func (.func 72) #[] #[]) w ∧
    (Instr.lookup 81 (.map (some g)) (.int .i64 2) false).run Try.prog w = .ok (.func (.func 73) #[] #[]) w := by
  have hz := zeroFn w
  refine ⟨?_, ?_, ?_⟩
  · obtain ⟨v, ps, hr, hv⟩ := World.ownsMap.lookup h keyedQ Try.underlying81 hz (zd := _) (zp := []) rfl (keyOf_int_mk Try.underlying83 (a := 0) rfl)
    rw [hr, fnElem_inv (n := 71) hv]
  · obtain ⟨v, ps, hr, hv⟩ := World.ownsMap.lookup h keyedQ Try.underlying81 hz (zd := _) (zp := []) rfl (keyOf_int_mk Try.underlying83 (a := 1) rfl)
    rw [hr, fnElem_inv (n := 72) hv]
  · obtain ⟨v, ps, hr, hv⟩ := World.ownsMap.lookup h keyedQ Try.underlying81 hz (zd := _) (zp := []) rfl (keyOf_int_mk Try.underlying83 (a := 2) rfl)
    rw [hr, fnElem_inv (n := 73) hv]

/-- The cell (a, b) of rows of 128 numbers. -/
theorem Rd.row {w : World} {B n : Nat} {A : Option Addr} {D : List Int} (h : Rd w B 128 A n (ints D)) {a : Nat} (ha : a < n) :
    ∃ b off, A = some ⟨b, off, none⟩ ∧ b < B ∧ ∀ q, q < 128 → w.cell? ⟨b, off + a * 128 + q, none⟩ = some (.int .i64 (Ln.gt D (a * 128 + q))) := by
  obtain ⟨b, off, e, hb, hc⟩ := h.2 (by omega)
  refine ⟨b, off, e, hb, fun q hq => ?_⟩
  have hl := h.1
  rw [ints_length] at hl
  have hlt : a * 128 + q < n * 128 := by omega
  rw [Nat.add_assoc, hc _ hlt, Ln.gt_eq (by omega)]
  simp [ints, hl, hlt]
theorem Rd.nat {w : World} {B : Nat} {A : Option Addr} {l : List Nat} (h : Rd w B 1 A l.length (nlist l)) {k : Nat} (hk : k < l.length) :
    ∃ b off, A = some ⟨b, off, none⟩ ∧ b < B ∧ w.cell? ⟨b, off + k, none⟩ = some (.int .i64 (l[k] : Nat)) := by
  obtain ⟨b, off, e, hb, hc⟩ := h.2 (by omega)
  refine ⟨b, off, e, hb, ?_⟩
  rw [hc k (by omega)]
  simp [nlist, hk]

theorem results_cell2_row {P : Program} {fn : Func} {p q : Tmp} {ty ty' : TypeId} (h : fn.results = #[.cell p ty, .cell q ty']) (tmps : Array Value) (w : World) (g g' : Nat) (t t' : TypeId) (cs cs' : Array Value) (fr fr' : Nat × Nat) (d d' : TypeDesc)
    (hp : tmps.getD p undef = .pointer (some ⟨g, 0, none⟩)) (hq : tmps.getD q undef = .pointer (some ⟨g', 0, none⟩)) (hg : w.heap[g]? = some (.cells cs t fr)) (hg' : w.heap[g']? = some (.cells cs' t' fr'))
    (hu : P.underlying ty = some d) (hd : (match d with | .struct _ | .array _ _ => true | _ => false) = true) (hi : (P.info? ty).map (·.size) = some cs.size)
    (hu' : P.underlying ty' = some d') (hd' : (match d' with | .struct _ | .array _ _ => true | _ => false) = true) (hi' : (P.info? ty').map (·.size) = some cs'.size) :
    (results fn tmps).run P w = .ok (.tuple #[.agg cs, .agg cs']) w := by
  have hp' : tmps[p]?.getD undef = .pointer (some ⟨g, 0, none⟩) := by simpa using hp
  have hq' : tmps[q]?.getD undef = .pointer (some ⟨g', 0, none⟩) := by simpa using hq
  simp [results, h, hp', hq', asAddr, run_loadVar_row w g t ty cs fr d hg hu hd hi, run_loadVar_row w g' t' ty' cs' fr' d' hg' hu' hd' hi']

end Go.Proofs.Yteiaofgkmgllcaa

namespace Go.Proofs.Yteiaofgkmgllcaa
open Go.RowKit Go.Maps

def Tame (l : List Int) : Prop := ∀ k, Ln.gt l k = Ln.NONE ∨ (-100000000000000000 ≤ Ln.gt l k ∧ Ln.gt l k ≤ 100000000000000000)
def Calm (l : List Int) : Prop := ∀ k, -100000000000000000 ≤ Ln.gt l k ∧ Ln.gt l k ≤ 100000000000000000

set_option maxRecDepth 100000 in
set_option maxHeartbeats 2000000 in
theorem possible_any (Ad : Option Addr) (cd nD : Nat) (D : List Int) (Ay : Option Addr) (cy : Nat) (y : List Int) (Ag : Option Addr) (cg : Nat) (gs : List Nat) (p : Nat) (w : World)
    (hD : Rd w w.heap.size 128 Ad nD (ints D)) (hDs : Tame D) (hY : Rd w w.heap.size 1 Ay y.length (ints y)) (hys : Calm y) (hG : Rd w w.heap.size 1 Ag gs.length (nlist gs))
    (hgs : ∀ g ∈ gs, g < nD ∧ g < y.length) (hp : p < nD) (hn : nD ≤ 128) (hyl : y.length ≤ 1000000) (hgl : gs.length ≤ 1000000) :
    Calls Try.prog 79 #[.slice Ad nD cd, .slice Ay y.length cy, .slice Ag gs.length cg, .int .i64 p] w fun e w' => e = .returned (.tuple #[endV (Ln.possF D y p gs).1, endV (Ln.possF D y p gs).2]) ∧ Below w.heap.size w w' := by
  go_enter Try.func79, Try.ntmps79
  go_wp2_with (go_at_call 46; refine (comparisons_any _).mono ?_; rintro e w1 ⟨mb, rfl, hmb, hm1, hb1⟩)
  have hB0 : Below w.heap.size w ((w.alloc (.cells #[.int .i64 0, .bool false] 86)).alloc (.cells #[.int .i64 0, .bool false] 86)) := ((Below.refl _ _).alloc (Nat.le_refl _) _).alloc (by simp) _
  have k80 := ((Bk.new w 86 #[.int .i64 0, .bool false]).alloc (.cells #[.int .i64 0, .bool false] 86)).below hb1 (by simp; omega)
  have k90 := (Bk.new (w.alloc (.cells #[.int .i64 0, .bool false] 86)) 86 #[.int .i64 0, .bool false]).below hb1 (by simp)
  rw [World.size_alloc] at k90
  have hB1 := hB0.trans (hb1.mono hB0.size)
  have hm2 : w.heap.size + 2 ≤ mb := by simpa using hmb
  clear hb1 hB0 hmb
  go_loopw [18] (fun i wr => ∃ (k : Nat) (s : (Int × Bool) × (Int × Bool)), k ≤ gs.length ∧ i = .int .i64 k ∧ s = Ln.possF D y p (gs.take k) ∧ Below w.heap.size w wr ∧ IsCmp wr mb ∧
      Bk wr w.heap.size 86 #[.int .i64 s.1.1, .bool s.1.2] ∧ Bk wr (w.heap.size + 1) 86 #[.int .i64 s.2.1, .bool s.2.2])
    (fun i _ => gs.length - (intOf i).toNat)
  case atStart => exact ⟨0, _, Nat.zero_le _, rfl, rfl, hB1, hm1, k80, k90⟩
  case round =>
    clear hB1 hm1 k80 k90
    obtain ⟨k, s, hk, rfl, hs, hB, hm, k8, k9⟩ := hrel
    have hsz := k9.lt
    have hBs := hB.size
    have hmlt := World.ownsMap.lt hm
    by_cases hkl : k < gs.length
    · have hst := Ln.possF_step D y p hkl
      rw [← hs] at hst
      have hgb := hgs _ (List.getElem_mem hkl)
      obtain ⟨bg, og, rfl, hbg, eg0⟩ := hG.nat hkl
      obtain ⟨g, hg⟩ : ∃ g, gs[k] = g := ⟨_, rfl⟩
      rw [hg] at hst hgb eg0
      have eg := (hB.cell (p := ⟨bg, og + k, none⟩) hbg).trans eg0
      clear hg
      obtain ⟨bd, od, rfl, hbd, ed⟩ := hD.row hp
      obtain ⟨_, _, hA, _, ed'⟩ := hD.row hgb.1
      cases hA
      obtain ⟨by', oy, rfl, hby, ey0⟩ := hY.one hgb.2
      rw [← Ln.gt_eq hgb.2] at ey0
      have e10 := ed g (by omega)
      have e20 := ed' p (by omega)
      have t1 := hDs (p * 128 + g)
      have t2 := hDs (g * 128 + p)
      have t3 := hys g
      unfold Ln.possS at hst
      obtain ⟨d1, hd1⟩ : ∃ d1, Ln.gt D (p * 128 + g) = d1 := ⟨_, rfl⟩
      obtain ⟨d2, hd2⟩ : ∃ d2, Ln.gt D (g * 128 + p) = d2 := ⟨_, rfl⟩
      obtain ⟨v, hv⟩ : ∃ v, Ln.gt y g = v := ⟨_, rfl⟩
      simp only [hd1, hd2, hv] at e10 e20 ey0 t1 t2 t3 hst
      have e1 := (hB.cell (p := ⟨bd, od + p * 128 + g, none⟩) hbd).trans e10
      have ey := (hB.cell (p := ⟨by', oy + g, none⟩) hby).trans ey0
      have E20 := Lib.hid e20
      have EY0 := Lib.hid ey0
      clear hd1 hd2 hv ed ed' hDs hys hgs hs e10 e20 ey0 eg0
      have HST := Lib.hid hst
      have T1 := Lib.hid t1
      have T2 := Lib.hid t2
      have T3 := Lib.hid t3
      clear hst t1 t2 t3
      have hg0 : (0 : Int) ≤ (g : Int) := Int.natCast_nonneg _
      have hg1 : (g : Int) < y.length := by omega
      have hg2 : (g : Int) < nD := by omega
      have hg3 : (g : Int) < 128 := by omega
      have hp0 : (0 : Int) ≤ (p : Int) := Int.natCast_nonneg _
      have hp2 : (p : Int) < nD := by omega
      have hp3 : (p : Int) < 128 := by omega
      go_upto_region 5 with fail
      go_cut [13] (fun s13 wx => ∃ x : Nat, s13 = .pointer (some ⟨x, 0, none⟩) ∧ wr.heap.size ≤ x ∧ Bk wx x 86 #[.int .i64 (Ln.lowF v d1).1, .bool (Ln.lowF v d1).2] ∧ Below wr.heap.size wr wx)
      case first =>
        have hSB : ∀ W, Below wr.heap.size wr W → W.cell? ⟨by', oy + g, none⟩ = some (.int .i64 v) ∧ W.cell? ⟨bd, od + p * 128 + g, none⟩ = some (.int .i64 d1) := fun W hb =>
          ⟨(hb.cell (p := ⟨by', oy + g, none⟩) (by simp; omega)).trans ey, (hb.cell (p := ⟨bd, od + p * 128 + g, none⟩) (by simp; omega)).trans e1⟩
        have HSB := Lib.hid hSB
        clear k8 k9 hm HST hSB
        go_region_held3 (fun w' => w'.cell? ⟨by', oy + g, none⟩ = some (.int .i64 v) ∧ w'.cell? ⟨bd, od + p * 128 + g, none⟩ = some (.int .i64 d1))
          (first
            | go_keep
            | ((try dsimp only); have hz : wr.heap.size ≤ w2.heap.size := Nat.le_trans (by first | exact Nat.le_refl _ | omega | (simp; done) | (simp; omega)) hb2.size; refine HSB.out _ ?_; (repeat (first | (with_reducible exact Below.refl _ _) | (with_reducible refine Below.drew ?_) | (with_reducible refine Below.setCell ?_ (by first | exact Nat.le_refl _ | omega | (simp; done) | (simp; omega)) _) | (with_reducible refine Below.alloc ?_ (by first | exact Nat.le_refl _ | omega | (simp; done) | (simp; omega)) _) | (refine Below.trans ?_ (Below.mono hb2 (by first | exact Nat.le_refl _ | omega | (simp; done) | (simp; omega))))))))
          (first
            | (go_at_call 47; refine (lowEnd_any v d1 T3.out T1.out _).mono ?_; rintro e w2 ⟨rfl, hb2⟩; have kz : Bk w2 wr.heap.size 86 #[.int .i64 0, .bool false] := Bk.below (w := (wr.alloc (.cells #[.int .i64 0, .bool false] 86)).drew) (Bk.new wr _ _) hb2 (by simp); have zc0 : w2.cell? ⟨wr.heap.size, 0, none⟩ = some (.int .i64 0) := kz.cell 0; have zc1 : w2.cell? ⟨wr.heap.size, 1, none⟩ = some (.bool false) := kz.cell 1; have zf0 := kz.frozen 0; have zf1 := kz.frozen 1)
            | (go_at_call 47; refine (lowEnd_any v d1 T3.out T1.out _).mono ?_; rintro e w2 ⟨rfl, hb2⟩))
        · have hz : wr.heap.size ≤ w2.heap.size := Nat.le_trans (by first | exact Nat.le_refl _ | omega | (simp; done) | (simp; omega)) hb2.size
          go_wp2_with fail
          go_meet
          exact ⟨w2.heap.size, rfl, hz, Bk.new _ _ _, by (repeat (first | (with_reducible exact Below.refl _ _) | (with_reducible refine Below.drew ?_) | (with_reducible refine Below.setCell ?_ (by first | exact Nat.le_refl _ | omega | (simp; done) | (simp; omega)) _) | (with_reducible refine Below.alloc ?_ (by first | exact Nat.le_refl _ | omega | (simp; done) | (simp; omega)) _) | (refine Below.trans ?_ (Below.mono hb2 (by first | exact Nat.le_refl _ | omega | (simp; done) | (simp; omega))))))⟩
        · have hz : wr.heap.size ≤ w2.heap.size := Nat.le_trans (by first | exact Nat.le_refl _ | omega | (simp; done) | (simp; omega)) hb2.size
          go_wp2_with fail
          go_meet
          exact ⟨wr.heap.size, rfl, Nat.le_refl _, (kz.set 0 (.int .i64 (Ln.lowF v d1).1)).set 1 (.bool (Ln.lowF v d1).2), by (repeat (first | (with_reducible exact Below.refl _ _) | (with_reducible refine Below.drew ?_) | (with_reducible refine Below.setCell ?_ (by first | exact Nat.le_refl _ | omega | (simp; done) | (simp; omega)) _) | (with_reducible refine Below.alloc ?_ (by first | exact Nat.le_refl _ | omega | (simp; done) | (simp; omega)) _) | (refine Below.trans ?_ (Below.mono hb2 (by first | exact Nat.le_refl _ | omega | (simp; done) | (simp; omega))))))⟩
      case rest =>
        obtain ⟨x, rfl, hx, kx, hbx⟩ := hcut
        have hzx := hbx.size
        have k8x := k8.below hbx (by omega)
        have k9x := k9.below hbx (by omega)
        have hmx := hm.below hbx hmlt
        have hBx := hB.trans (hbx.mono hBs)
        have lk := hmx.look.2.1
        have xc0 := kx.cell 0
        have xc1 := kx.cell 1
        have c80 := k8x.cell 0
        have c81 := k8x.cell 1
        have hxlt := kx.lt
        clear k8 k9 hm hB hbx
        obtain ⟨l, hl⟩ : ∃ l, Ln.lowF v d1 = l := ⟨_, rfl⟩
        simp only [hl] at xc0 xc1 kx
        have HL := Lib.hid hl
        clear hl
        rcases hb1 : Ln.aboveF l s.1 with _ | _
        all_goals
          go_upto_region 8 with (go_at_call 72; refine (above_any l s.1 _).mono ?_; rw [hb1]; rintro e w3 ⟨rfl, hb3⟩; have k83 := k8x.below hb3 (by omega); have d80 := k83.cell 0; have d81 := k83.cell 1; have f80 := k83.frozen 0; have f81 := k83.frozen 1; have kx3 := kx.below hb3 (by omega); have xd0 := kx3.cell 0; have xd1 := kx3.cell 1)
        have hz3 := hb3.size
        have kA := k8x.below hb3 (by omega)
        have kB := k9x.below hb3 (by omega)
        have hmA := hmx.below hb3 (by omega)
        have hBA := hBx.trans (hb3.mono (by omega))
        have hzA : wr.heap.size ≤ w3.heap.size := by omega
        obtain ⟨lo, hlo⟩ : ∃ lo, s.1 = lo := ⟨_, rfl⟩
        rw [hlo] at kA
        have hlo2 : (if Ln.aboveF (Ln.lowF v d1) s.1 = true then Ln.lowF v d1 else s.1) = lo := by rw [HL.out, if_neg (by rw [hb1]; simp), hlo]
        have HLO := Lib.hid hlo2
        clear hlo2
        obtain ⟨W2, hW2⟩ : ∃ W2, w3 = W2 := ⟨_, rfl⟩
        rw [hW2] at kA kB hmA hBA hzA ⊢
        clear hW2 hb1 hb3 k8x k9x hmx hBx lk xc0 xc1 c80 c81 hz3 hlo k83 d80 d81 f80 f81 kx3 xd0 xd1
        rotate_left
        have hz3 := hb3.size
        have kA := (k83.set 0 (.int .i64 l.1)).set 1 (.bool l.2)
        have kB := ((k9x.below hb3 (by omega)).far (p := ⟨w.heap.size, 0, none⟩) (by simp) (.int .i64 l.1)).far (p := ⟨w.heap.size, 1, none⟩) (by simp) (.bool l.2)
        have hmA := IsCmp.far (IsCmp.far (hmx.below hb3 (by omega)) (p := ⟨w.heap.size, 0, none⟩) (by simp; omega) (.int .i64 l.1)) (p := ⟨w.heap.size, 1, none⟩) (by simp; omega) (.bool l.2)
        have hBA := ((hBx.trans (hb3.mono (by omega))).setCell (p := ⟨w.heap.size, 0, none⟩) (Nat.le_refl _) (.int .i64 l.1)).setCell (p := ⟨w.heap.size, 1, none⟩) (Nat.le_refl _) (.bool l.2)
        have hzA : wr.heap.size ≤ ((w3.setCell ⟨w.heap.size, 0, none⟩ (.int .i64 l.1)).setCell ⟨w.heap.size, 1, none⟩ (.bool l.2)).heap.size := by rw [size_setCell, size_setCell]; omega
        obtain ⟨lo, hlo⟩ : ∃ lo, l = lo := ⟨_, rfl⟩
        have hlo2 : (if Ln.aboveF (Ln.lowF v d1) s.1 = true then Ln.lowF v d1 else s.1) = lo := by rw [HL.out, if_pos hb1, hlo]
        have HLO := Lib.hid hlo2
        clear hlo2
        have hkA : #[Value.int .i64 l.1, Value.bool l.2] = #[Value.int .i64 lo.1, Value.bool lo.2] := by rw [hlo]
        simp only [List.setIfInBounds_toArray, List.set_cons_zero, List.set_cons_succ] at kA
        rw [hkA] at kA
        obtain ⟨W2, hW2⟩ : ∃ W2, (w3.setCell ⟨w.heap.size, 0, none⟩ (.int .i64 l.1)).setCell ⟨w.heap.size, 1, none⟩ (.bool l.2) = W2 := ⟨_, rfl⟩
        rw [hW2] at kA kB hmA hBA hzA ⊢
        clear hW2 hb1 hb3 k8x k9x hmx hBx lk xc0 xc1 c80 c81 hz3 hlo k83 d80 d81 f80 f81 kx3 xd0 xd1 hkA
        all_goals
          have eyA := (hBA.cell (p := ⟨by', oy + g, none⟩) hby).trans EY0.out
          have e2A := (hBA.cell (p := ⟨bd, od + g * 128 + p, none⟩) hbd).trans E20.out
          have hszA := kB.lt
          have hBAs := hBA.size
          have hmAlt := World.ownsMap.lt hmA
          have HBX := Lib.hid hx
          clear hx kx hzx hxlt e1 ey
          go_cut [14] (fun s14 wx => ∃ x' : Nat, s14 = .pointer (some ⟨x', 0, none⟩) ∧ W2.heap.size ≤ x' ∧ Bk wx x' 86 #[.int .i64 (Ln.highF v d2).1, .bool (Ln.highF v d2).2] ∧ Below W2.heap.size W2 wx)
          case first =>
            have hSB : ∀ W, Below W2.heap.size W2 W → W.cell? ⟨by', oy + g, none⟩ = some (.int .i64 v) ∧ W.cell? ⟨bd, od + g * 128 + p, none⟩ = some (.int .i64 d2) := fun W hb =>
              ⟨(hb.cell (p := ⟨by', oy + g, none⟩) (by simp; omega)).trans eyA, (hb.cell (p := ⟨bd, od + g * 128 + p, none⟩) (by simp; omega)).trans e2A⟩
            have HSB := Lib.hid hSB
            clear kA kB hmA hBA HST HLO HL hSB
            go_region_held3 (fun w' => w'.cell? ⟨by', oy + g, none⟩ = some (.int .i64 v) ∧ w'.cell? ⟨bd, od + g * 128 + p, none⟩ = some (.int .i64 d2))
              (first
                | go_keep
                | ((try dsimp only); have hz : W2.heap.size ≤ w4.heap.size := Nat.le_trans (by first | exact Nat.le_refl _ | omega | (simp; done) | (simp; omega)) hb4.size; refine HSB.out _ ?_; (repeat (first | (with_reducible exact Below.refl _ _) | (with_reducible refine Below.drew ?_) | (with_reducible refine Below.setCell ?_ (by first | exact Nat.le_refl _ | omega | (simp; done) | (simp; omega)) _) | (with_reducible refine Below.alloc ?_ (by first | exact Nat.le_refl _ | omega | (simp; done) | (simp; omega)) _) | (refine Below.trans ?_ (Below.mono hb4 (by first | exact Nat.le_refl _ | omega | (simp; done) | (simp; omega))))))))
              (first
                | (go_at_call 48; refine (highEnd_any v d2 T3.out T2.out _).mono ?_; rintro e w4 ⟨rfl, hb4⟩; have kz : Bk w4 W2.heap.size 86 #[.int .i64 0, .bool false] := Bk.below (w := (W2.alloc (.cells #[.int .i64 0, .bool false] 86)).drew) (Bk.new W2 _ _) hb4 (by simp); have zc0 : w4.cell? ⟨W2.heap.size, 0, none⟩ = some (.int .i64 0) := kz.cell 0; have zc1 : w4.cell? ⟨W2.heap.size, 1, none⟩ = some (.bool false) := kz.cell 1; have zf0 := kz.frozen 0; have zf1 := kz.frozen 1)
                | (go_at_call 48; refine (highEnd_any v d2 T3.out T2.out _).mono ?_; rintro e w4 ⟨rfl, hb4⟩))
            · have hz : W2.heap.size ≤ w4.heap.size := Nat.le_trans (by first | exact Nat.le_refl _ | omega | (simp; done) | (simp; omega)) hb4.size
              go_wp2_with fail
              go_meet
              exact ⟨w4.heap.size, rfl, hz, Bk.new _ _ _, by (repeat (first | (with_reducible exact Below.refl _ _) | (with_reducible refine Below.drew ?_) | (with_reducible refine Below.setCell ?_ (by first | exact Nat.le_refl _ | omega | (simp; done) | (simp; omega)) _) | (with_reducible refine Below.alloc ?_ (by first | exact Nat.le_refl _ | omega | (simp; done) | (simp; omega)) _) | (refine Below.trans ?_ (Below.mono hb4 (by first | exact Nat.le_refl _ | omega | (simp; done) | (simp; omega))))))⟩
            · have hz : W2.heap.size ≤ w4.heap.size := Nat.le_trans (by first | exact Nat.le_refl _ | omega | (simp; done) | (simp; omega)) hb4.size
              go_wp2_with fail
              go_meet
              exact ⟨W2.heap.size, rfl, Nat.le_refl _, (kz.set 0 (.int .i64 (Ln.highF v d2).1)).set 1 (.bool (Ln.highF v d2).2), by (repeat (first | (with_reducible exact Below.refl _ _) | (with_reducible refine Below.drew ?_) | (with_reducible refine Below.setCell ?_ (by first | exact Nat.le_refl _ | omega | (simp; done) | (simp; omega)) _) | (with_reducible refine Below.alloc ?_ (by first | exact Nat.le_refl _ | omega | (simp; done) | (simp; omega)) _) | (refine Below.trans ?_ (Below.mono hb4 (by first | exact Nat.le_refl _ | omega | (simp; done) | (simp; omega))))))⟩
          case rest =>
            obtain ⟨x', rfl, hx', kx', hbx'⟩ := hcut
            have hzx' := hbx'.size
            have kAx := kA.below hbx' (by omega)
            have kBx := kB.below hbx' (by omega)
            have hmx' := hmA.below hbx' hmAlt
            have hBx' := hBA.trans (hbx'.mono hBAs)
            have lk := hmx'.look.1
            have xc0 := kx'.cell 0
            have xc1 := kx'.cell 1
            have c90 := kBx.cell 0
            have c91 := kBx.cell 1
            have hxlt := kx'.lt
            clear kA kB hmA hBA hbx'
            obtain ⟨h, hh⟩ : ∃ h, Ln.highF v d2 = h := ⟨_, rfl⟩
            simp only [hh] at xc0 xc1 kx'
            have HH := Lib.hid hh
            clear hh
            rcases hb5 : Ln.belowF h s.2 with _ | _
            · go_wp2_with (go_at_call 71; refine (below_any h s.2 _).mono ?_; rw [hb5]; rintro e w5 ⟨rfl, hb6⟩)
              go_roundw
              case rel =>
                refine ⟨k + 1, (lo, s.2), by omega, by go_num, ?_, hBx'.trans (hb6.mono (by omega)), hmx'.below hb6 (by omega), kAx.below hb6 (by omega), kBx.below hb6 (by omega)⟩
                rw [HST.out, HLO.out, HH.out, if_neg (by rw [hb5]; simp)]
              case measure => simp [intOf]; omega
            · go_wp2_with (go_at_call 71; refine (below_any h s.2 _).mono ?_; rw [hb5]; rintro e w5 ⟨rfl, hb6⟩; have k93 := kBx.below hb6 (by omega); have d90 := k93.cell 0; have d91 := k93.cell 1; have f90 := k93.frozen 0; have f91 := k93.frozen 1; have kx3 := kx'.below hb6 (by omega); have xd0 := kx3.cell 0; have xd1 := kx3.cell 1)
              go_roundw
              case rel =>
                refine ⟨k + 1, (lo, h), by omega, by go_num, ?_, ((hBx'.trans (hb6.mono (by omega))).setCell (p := ⟨w.heap.size + 1, 0, none⟩) (by simp) (.int .i64 h.1)).setCell (p := ⟨w.heap.size + 1, 1, none⟩) (by simp) (.bool h.2),
                  IsCmp.far (IsCmp.far (hmx'.below hb6 (by omega)) (p := ⟨w.heap.size + 1, 0, none⟩) (by simp; omega) (.int .i64 h.1)) (p := ⟨w.heap.size + 1, 1, none⟩) (by simp; omega) (.bool h.2),
                  ((kAx.below hb6 (by omega)).far (p := ⟨w.heap.size + 1, 0, none⟩) (by simp) (.int .i64 h.1)).far (p := ⟨w.heap.size + 1, 1, none⟩) (by simp) (.bool h.2), (k93.set 0 (.int .i64 h.1)).set 1 (.bool h.2)⟩
                rw [HST.out, HLO.out, HH.out, if_pos hb5]
              case measure => simp [intOf]; omega
    · obtain rfl : k = gs.length := by omega
      rw [List.take_length] at hs
      subst hs
      have c80 := k8.cell 0
      have c81 := k8.cell 1
      have c90 := k9.cell 0
      have c91 := k9.cell 1
      have f80 := k8.frozen 0
      have f81 := k8.frozen 1
      have f90 := k9.frozen 0
      have f91 := k9.frozen 1
      go_wp2_with fail
      obtain ⟨l, hl⟩ : ∃ l, (Ln.possF D y p gs).1 = l := ⟨_, rfl⟩
      obtain ⟨h, hh⟩ : ∃ h, (Ln.possF D y p gs).2 = h := ⟨_, rfl⟩
      simp only [hl, hh] at c80 c81 c90 c91 k8 k9
      have HL := Lib.hid hl
      have HH := Lib.hid hh
      clear hl hh
      have k8f := (((k8.set 0 (.int .i64 l.1)).set 1 (.bool l.2)).far (p := ⟨w.heap.size + 1, 0, none⟩) (by simp) (.int .i64 h.1)).far (p := ⟨w.heap.size + 1, 1, none⟩) (by simp) (.bool h.2)
      have k9f := (((k9.far (p := ⟨w.heap.size, 0, none⟩) (by simp) (.int .i64 l.1)).far (p := ⟨w.heap.size, 1, none⟩) (by simp) (.bool l.2)).set 0 (.int .i64 h.1)).set 1 (.bool h.2)
      have hBf := (((hB.setCell (p := ⟨w.heap.size, 0, none⟩) (Nat.le_refl _) (.int .i64 l.1)).setCell (p := ⟨w.heap.size, 1, none⟩) (Nat.le_refl _) (.bool l.2)).setCell (p := ⟨w.heap.size + 1, 0, none⟩) (by simp) (.int .i64 h.1)).setCell (p := ⟨w.heap.size + 1, 1, none⟩) (by simp) (.bool h.2)
      have K8 := Lib.hid k8f
      have K9 := Lib.hid k9f
      have HBF := Lib.hid hBf
      clear k8f k9f hBf
      go_region
      go_wp2_with fail
      rw [HL.out, HH.out]
      exact bodyPost_ret (v := .tuple #[.agg #[.int .i64 l.1, .bool l.2], .agg #[.int .i64 h.1, .bool h.2]]) (results_cell2_row rfl _ _ w.heap.size (w.heap.size + 1) 86 86 _ _ (0, 0) (0, 0) _ _ rfl rfl K8.out K9.out Try.underlying86 rfl (by kernel_rfl) Try.underlying86 rfl (by kernel_rfl)) rfl ⟨rfl, HBF.out.drew⟩

end Go.Proofs.Yteiaofgkmgllcaa

