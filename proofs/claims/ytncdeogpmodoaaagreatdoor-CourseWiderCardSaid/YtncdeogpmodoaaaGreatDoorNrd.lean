/-
  number, size, sum of course: what words say; read: the number that a text says, if it is written so.
-/
import Derived.Test.YtncdeogpmodoaaaGreatDoorLen
import Derived.Defers
import Derived.Recover
set_option linter.unusedVariables false
set_option linter.unusedSimpArgs false
namespace Go.Proofs.YtncdeogpmodoaaaGreatDoor
open Go.RowKit Go.Shelf
set_option maxRecDepth 100000
attribute [local go_sem] Oper.semAt_some

theorem results_cell1 {P : Program} {fn : Func} {p : Tmp} {ty : TypeId} (h : fn.results = #[.cell p ty]) (tmps : Array Value) (w : World) (g : Nat) (v : Value) (hp : tmps.getD p undef = .pointer (some ⟨g, 0, none⟩))
    (hc : w.cell? ⟨g, 0, none⟩ = some v) (ha : ∀ w, (isAgg ty).run P w = .ok false w) : (results fn tmps).run P w = .ok v w := by
  have hp' : tmps[p]?.getD undef = .pointer (some ⟨g, 0, none⟩) := by simpa using hp
  simp [results, h, hp', asAddr, go_sem, hc, ha, Result.andThen]

/-- What a reading is left with. -/
def noForm : Value := .iface 9 (.string ⟨#[116, 104, 105, 115, 32, 105, 115, 32, 119, 114, 105, 116, 116, 101, 110, 32, 111, 116, 104, 101, 114, 119, 105, 115, 101]⟩)

set_option maxHeartbeats 1000000 in
theorem number_yes (l : Cs.Bs) (v : Int) (hv : Cs.numF l = some v) (hl : l.length ≤ 1000000) (w : World) :
    Calls Tryz.prog 90 #[sv l] w fun e w' => e = .returned (.int .i64 v) ∧ Below w.heap.size w w' := by
  have HA := Lib.hid (atoi_ok l v hv hl w)
  rw [sv_def]
  clear hv
  go_enter Tryz.func90, Tryz.ntmps90
  go_wp2_with fail
  refine HA.out.mono ?_
  rintro e w1 ⟨rfl, hb1⟩
  go_wp2_with fail
  go_ret
  exact ⟨rfl, hb1⟩

set_option maxHeartbeats 1000000 in
theorem number_no (l : Cs.Bs) (hv : Cs.numF l = none) (hl : l.length ≤ 1000000) (w : World) (hE : Env w) :
    Calls Tryz.prog 90 #[sv l] w fun e w' => e = .panicked [{ v := noForm, recovered := false }] ∧ Below w.heap.size w w' := by
  have HA := Lib.hid (atoi_no l hv hl w hE)
  rw [sv_def]
  clear hv hE
  go_enter Tryz.func90, Tryz.ntmps90
  go_wp2_with fail
  refine HA.out.mono ?_
  rintro e w1 ⟨v, t, p, rfl, hb1⟩
  go_wp2_with fail
  exact ⟨rfl, rfl, hb1⟩

/-- How a reading of a number ends: with it, or by a panic. -/
def Rdn (r : Option Int) (e : Ending) : Prop := match r with | some z => e = .returned (.int .i64 z) | none => e = .panicked [{ v := noForm, recovered := false }]
theorem Rdn.some_ {r : Option Int} {z : Int} (h : r = some z) : Rdn r (.returned (.int .i64 z)) := by rw [h]; rfl
theorem Rdn.none_ {r : Option Int} (h : r = none) : Rdn r (.panicked [{ v := noForm, recovered := false }]) := by rw [h]; rfl

theorem Cs.sizeF_none {us : List Cs.Un} {w : Cs.Bs} (h : ∀ v ∈ us, ¬ (w = v.one ∨ w = v.many)) : Cs.sizeF us w = none := by
  induction us with
  | nil => rfl
  | cons u r ih =>
    rw [Cs.sizeF, if_neg (h u List.mem_cons_self)]
    exact ih (fun x hx => h x (List.mem_cons_of_mem _ hx))
theorem Cs.sizeF_at {us r : List Cs.Un} {u : Cs.Un} {w : Cs.Bs} (h : ∀ v ∈ us, ¬ (w = v.one ∨ w = v.many)) (hu : w = u.one ∨ w = u.many) : Cs.sizeF (us ++ u :: r) w = some u.size := by
  induction us with
  | nil => simp [Cs.sizeF, hu]
  | cons v t ih =>
    rw [List.cons_append, Cs.sizeF, if_neg (h v List.mem_cons_self)]
    exact ih (fun x hx => h x (List.mem_cons_of_mem _ hx))

/-- How size's loop is left: the word names a unit. -/
def SizX (w : World) (wd : Cs.Bs) (c : Code) (pre : List Uo) (W : World) : Prop :=
  c = .ret ∧ ∃ (pre' : List Uo) (x : Uo), pre = pre' ++ [x] ∧ (∀ v ∈ pre'.map (·.1), ¬ (wd = v.one ∨ wd = v.many)) ∧ (wd = x.1.one ∨ wd = x.1.many) ∧ Bk W (w.heap.size + 1) 3 #[.int .i64 x.1.size] ∧ Below w.heap.size w W
theorem sizX_own {w : World} {wd : Cs.Bs} {B : Nat} (hB : w.heap.size ≤ B) (c : Code) : OwnFrom B (SizX w wd c) := by
  rintro pre W W' row ⟨h0, pre', x, h1, h2, h3, h4, h5⟩ hg hr
  exact ⟨h0, pre', x, h1, h2, h3, bk_own h4 hg (fun r e => (hr r e).2), below_own h5 hB hg (fun r e => (hr r e).1) h5.size⟩
def SizI (w : World) (wd : Cs.Bs) (pre : List Uo) (W : World) : Prop :=
  (∀ v ∈ pre.map (·.1), ¬ (wd = v.one ∨ wd = v.many)) ∧ Bk W w.heap.size 9 #[.string ⟨wd.toArray⟩] ∧ Bk W (w.heap.size + 1) 3 #[.int .i64 0] ∧ Below w.heap.size w W
theorem sizI_own {w : World} {wd : Cs.Bs} {B : Nat} (hB : w.heap.size ≤ B) : OwnFrom B (SizI w wd) := by
  rintro pre W W' row ⟨h1, h2, h3, h4⟩ hg hr
  exact ⟨h1, bk_own h2 hg (fun r e => (hr r e).2), bk_own h3 hg (fun r e => (hr r e).2), below_own h4 hB hg (fun r e => (hr r e).1) h4.size⟩

set_option maxHeartbeats 8000000 in
theorem size_any (g : Nat) (us : List Uo) (hst : ∀ n, 1 ≤ n → ∀ Kp w, SeqStopsK Fence.wide n Tryz.prog g #[] uvals Kp (fun xs => xs = us) (fun pre => pre <+: us) us.length w)
    (eg : ∀ args w, (callFunc g args).run Tryz.prog w = .ok (.enter g args) w) (wd : Cs.Bs) (w : World) :
    Calls Tryz.prog 91 #[.func (.func g) #[] #[], sv wd] w fun e w' => Rdn (Cs.sizeF (us.map (·.1)) wd) e ∧ Below w.heap.size w w' := by
  rw [sv_def]
  refine (callsIn_wide (n := 3)).1 ?_
  refine callsIn_of_wp_marks Tryz.func91 rfl trivial ?_ rfl
  simp only [Tryz.ntmps91, List.size_toArray, List.length_cons, List.length_nil, Nat.reduceAdd, Nat.reduceSub, Array.replicate_succ, Array.replicate_zero, List.push_toArray, List.append_toArray, List.nil_append, List.cons_append]
  gi_wp2_with (fail)
  have kn := (Bk.new w 9 #[.string ⟨wd.toArray⟩]).alloc (.cells #[.int .i64 0] 3)
  have kw := Bk.new (w.alloc (.cells #[.string ⟨wd.toArray⟩] 9)) 3 #[.int .i64 0]
  have hB0 := ((Below.refl w.heap.size w).alloc (Nat.le_refl _) (.cells #[.string ⟨wd.toArray⟩] 9)).alloc (by simp) (.cells #[.int .i64 0] 3)
  have e0 : ((w.alloc (.cells #[.string ⟨wd.toArray⟩] 9)).alloc (.cells #[.int .i64 0] 3)).heap.size = w.heap.size + 2 := by simp
  rw [World.size_alloc] at kw
  obtain ⟨W0, hW0⟩ : ∃ W0, ((w.alloc (.cells #[.string ⟨wd.toArray⟩] 9)).alloc (.cells #[.int .i64 0] 3)) = W0 := ⟨_, rfl⟩
  rw [hW0] at kn kw hB0 e0 ⊢
  clear hW0
  have hz0 : W0.heap.size ≤ w.heap.size + 2 := by omega
  have hz1 : w.heap.size + 2 ≤ W0.heap.size := by omega
  clear e0
  have HST := Lib.hid hst
  have EG := Lib.hid eg
  clear hst eg
  refine wpIn_rangeFunc_ownH (F := Fence.wide) (n := 3) rfl (by omega) (gf := g) (lb := #[]) rfl trivial EG.out
    (HST.out 2 (by omega) (fun _ _ => True) W0) (fun _ _ => trivial) (fun _ _ _ _ _ _ _ _ => trivial) (Below.refl _ _) (fun _ => rfl)
    (SizI w wd)
    (SizX w wd)
    (sizI_own (by omega))
    (sizX_own (by omega))
    ⟨(fun v hv => by cases hv), kn, kw, hB0⟩
    (fun x a' W' => ∃ Bx, W0.heap.size ≤ Bx ∧ Bk W' Bx 110 #[.string ⟨x.1.one.toArray⟩, .string ⟨x.1.many.toArray⟩, .int .i64 x.1.size] ∧ a' = { tmps := (Value.func (.func g) #[] #[] :: Value.string ⟨wd.toArray⟩ :: undef :: Value.pointer (some ⟨w.heap.size, 0, none⟩) :: Value.pointer (some ⟨w.heap.size + 1, 0, none⟩) :: Value.pointer (some ⟨Bx, 0, none⟩) :: Value.func (.func g) #[] #[] :: Value.agg #[.string ⟨x.1.one.toArray⟩, .string ⟨x.1.many.toArray⟩, .int .i64 x.1.size] :: undef :: undef :: undef :: undef :: undef :: undef :: undef :: undef :: undef :: undef :: undef :: undef :: undef :: []).toArray, defers := [] })
    (fun x a' _ X Y row hs hg hr => by obtain ⟨Bx, h1, h2, h3⟩ := hs; exact ⟨Bx, h1, bk_own h2 hg (fun r e => (hr r e).2), h3⟩)
    ?assign ?body ?done ?stop
  case assign =>
    rintro l pre x W' KK i1 hKK
    rw [show uvals x = #[.agg #[.string ⟨x.1.one.toArray⟩, .string ⟨x.1.many.toArray⟩, .int .i64 x.1.size]] from rfl]
    have hBW : W0.heap.size ≤ W'.heap.size := by
      have := i1.2.2.1.lt
      omega
    have i2 : SizI w wd pre (W'.alloc (.cells #[.string ⟨x.1.one.toArray⟩, .string ⟨x.1.many.toArray⟩, .int .i64 x.1.size] 110)) := by
      obtain ⟨q1, q2, q3, q4⟩ := i1
      exact ⟨q1, q2.alloc _, q3.alloc _, q4.alloc q4.size _⟩
    have I2 := Lib.hid i2
    have HKK := Lib.hid hKK
    clear i1 i2 hKK
    gi_wp2_with (fail)
    exact HKK.out _ _ ((KeepsOthers.alloc _ _).from _) trivial I2.out ⟨W'.heap.size, hBW, Bk.new W' _ _, rfl⟩
  case body =>
    rintro l' pre x a' W' hl' ⟨rr, hr⟩ ⟨i1, i2, i3, i4⟩ ⟨Bx, hBx, bX, rfl⟩ hltp
    obtain ⟨u, hu⟩ := x
    dsimp only at bX ⊢
    have x0 := (bX.cell 0).trans rfl
    have x1 := (bX.cell 1).trans rfl
    have x2 := (bX.cell 2).trans rfl
    have c0 := (i2.cell 0).trans rfl
    have c1 := (i3.cell 0).trans rfl
    have f1 := i3.frozen 0
    have lX := bX.lt
    have l1 := i2.lt
    have l2 := i3.lt
    have hNO := Lib.hid (show ¬ (wd = u.one ∨ wd = u.many) → SizI w wd (pre ++ [(⟨u, hu⟩ : Uo)]) W' from fun hno => ⟨fun v hv => by
      rw [List.map_append, List.mem_append] at hv
      rcases hv with hv | hv
      · exact i1 v hv
      · simp only [List.map_cons, List.map_nil, List.mem_cons, List.not_mem_nil, or_false] at hv
        rw [hv]; exact hno, i2, i3, i4⟩)
    have hYES := Lib.hid (show (wd = u.one ∨ wd = u.many) → KeepsFrom W0.heap.size W' (W'.setCell ⟨w.heap.size + 1, 0, none⟩ (.int .i64 u.size)) ∧ SizX w wd .ret (pre ++ [(⟨u, hu⟩ : Uo)]) (W'.setCell ⟨w.heap.size + 1, 0, none⟩ (.int .i64 u.size)) from fun h =>
      ⟨(KeepsOthers.setCell _ _ _).from _, rfl, pre, ⟨u, hu⟩, rfl, i1, h, i3.set 0 _, i4.setCell (p := ⟨w.heap.size + 1, 0, none⟩) (by simp) _⟩)
    rcases h1 : (wd == u.one) with _ | _
    · rcases h2 : (wd == u.many) with _ | _
      · have HF := Lib.hid (hNO.out (fun e => by rcases e with e | e <;> simp [e] at h1 h2))
        clear i1 i2 i3 i4 bX hNO hYES
        gi_wp2_with (fail)
        exact ⟨⟨Nat.le_refl _, fun _ _ _ h _ => h⟩, trivial, HF.out⟩
      · have HF := Lib.hid (hYES.out (.inr (by simpa using h2)))
        clear i1 i2 i3 i4 bX hNO hYES
        gi_wp2_with (fail)
        exact HF.out
    · have HF := Lib.hid (hYES.out (.inl (by simpa using h1)))
      clear i1 i2 i3 i4 bX hNO hYES
      rcases h2 : (wd == u.many) with _ | _
      all_goals
        gi_wp2_with (fail)
        exact HF.out
  case done =>
    rintro D xs W' hD rfl ⟨i1, i2, i3, i4⟩ hKD
    have hno := Cs.sizeF_none i1
    have HB4 := Lib.hid i4
    have HKD := Lib.hid hKD
    have HNO := Lib.hid hno
    clear i1 i2 i3 i4 hKD hno
    gi_wp2_with (fail)
    refine leaves_marks_panic [D] _ (by simp) (fun E hE => by simp only [List.mem_cons, List.not_mem_nil, or_false] at hE; rw [hE]; exact HKD.out) (fun w' hw => ?_)
    refine ⟨Rdn.none_ HNO.out, ?_⟩
    exact HB4.out.trans (hw.below HB4.out.size (fun j hj e => by simp only [List.mem_cons, List.not_mem_nil, or_false] at e; omega))
  case stop =>
    rintro D c pre W' hD hSp ⟨rfl, pre', x, rfl, hno, hyes, k3, hB4⟩ hKD
    obtain ⟨rest, hrest⟩ := hSp
    have hsz : Cs.sizeF (us.map (·.1)) wd = some x.1.size := by
      rw [← hrest]
      simp only [List.map_append, List.map_cons, List.map_nil, List.append_assoc, List.singleton_append]
      exact Cs.sizeF_at hno hyes
    have c1 := (k3.cell 0).trans rfl
    have l1 := k3.lt
    have HB4 := Lib.hid hB4
    have HKD := Lib.hid hKD
    have HSZ := Lib.hid hsz
    have HK3 := Lib.hid k3
    clear hB4 hKD hsz k3 hno hyes hrest
    gi_wp2_with (fail)
    refine leaves_marks [D] _ (by simp) (fun E hE => by simp only [List.mem_cons, List.not_mem_nil, or_false] at hE; rw [hE]; exact HKD.out) (fun w' hw => ?_)
    have c9 := ((hw.bk HK3.out l1 (fun e => by simp only [List.mem_cons, List.not_mem_nil, or_false] at e; omega)).cell 0).trans rfl
    refine ⟨_, results_cell1 rfl _ _ _ _ rfl c9 Tryz.isAgg3, ?_⟩
    refine ⟨Rdn.some_ HSZ.out, ?_⟩
    exact HB4.out.trans (hw.below HB4.out.size (fun j hj e => by simp only [List.mem_cons, List.not_mem_nil, or_false] at e; omega))

end Go.Proofs.YtncdeogpmodoaaaGreatDoor
