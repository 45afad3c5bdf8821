/-
  read of course: the number that a text says, if it is written so. Links.
-/
import Derived.Test.YtncdeogpmodoaaaGreatDoorSum
set_option linter.unusedVariables false
set_option linter.unusedSimpArgs false
namespace Go.Proofs.YtncdeogpmodoaaaGreatDoor
open Go.RowKit Go.Shelf
set_option maxRecDepth 100000

/-- Cut at blanks, into at most eight parts. -/
theorem split_any (s : Cs.Bs) (hs : s.length ≤ 1000000) (w : World) (hE : Env w) :
    Calls Tryz.prog 88 #[.string ⟨s.toArray⟩, .string ⟨#[32]⟩, .int .i64 8] w fun e w' => ∃ A c, e = .returned (.slice A (Lib.splitN s [32] 8).length c) ∧ (Lib.splitN s [32] 8).length ≤ c ∧ Rd w' w'.heap.size 1 A (Lib.splitN s [32] 8).length (wcells (Lib.splitN s [32] 8)) ∧ Below w.heap.size w w' := by
  obtain ⟨m, hm⟩ := hE.mx
  have h := Tryz.strings_SplitN ⟨s.toArray⟩ ⟨#[32]⟩ 8 m w (by simp [ByteArray.size]; omega) hm (by decide) (by decide) (by decide)
  have hd := Lib.splitB_data ⟨#[32]⟩ 0 (min 8 ((⟨s.toArray⟩ : ByteArray).size + 1) - 1) ⟨s.toArray⟩
  have e1 : Lib.splitN s [32] 8 = (Lib.splitB ⟨#[32]⟩ 0 (min 8 ((⟨s.toArray⟩ : ByteArray).size + 1) - 1) ⟨s.toArray⟩).map (·.data.toList) := by
    rw [hd]
    simp [Lib.splitN, ByteArray.size]
  obtain ⟨L, hL⟩ : ∃ L, Lib.splitB ⟨#[32]⟩ 0 (min 8 ((⟨s.toArray⟩ : ByteArray).size + 1) - 1) ⟨s.toArray⟩ = L := ⟨_, rfl⟩
  have hle := Lib.splitB_length_le ⟨#[32]⟩ 0 (min 8 ((⟨s.toArray⟩ : ByteArray).size + 1) - 1) ⟨s.toArray⟩
  rw [hL] at h e1 hle
  obtain ⟨c, hc⟩ : ∃ c, min 8 ((⟨s.toArray⟩ : ByteArray).size + 1) = c := ⟨_, rfl⟩
  rw [hc] at h hle
  have hc1 : 1 ≤ c := by omega
  refine h.mono ?_
  rintro e w' ⟨he, rfl⟩
  refine ⟨some ⟨w.heap.size, 0, none⟩, c, by rw [he, e1, List.length_map], by rw [e1, List.length_map]; omega, ?_, (Below.refl _ _).alloc (Nat.le_refl _) _⟩
  rw [e1]
  refine ⟨by simp [wcells], fun hp => ⟨_, _, rfl, by simp, fun j hj => ?_⟩⟩
  have hj' : j < L.length := by simpa using hj
  rw [(Bk.new w _ _).cell]
  simp [Lib.cellsOf, wcells, sv, hj', List.getElem?_append_left]

theorem read1_panicking (b6 b7 : Nat) (x y : Value) (u : TypeId) (pv : Value) (w : World) (h6 : w.cell? ⟨b6, 0, none⟩ = some x) (f6 : w.frozen? ⟨b6, 0, none⟩ = false) (h7 : (w.setCell ⟨b6, 0, none⟩ (.int .i64 0)).cell? ⟨b7, 0, none⟩ = some y) (f7 : (w.setCell ⟨b6, 0, none⟩ (.int .i64 0)).frozen? ⟨b7, 0, none⟩ = false) :
    CallsD Tryz.prog 87 #[.pointer (some ⟨b6, 0, none⟩), .pointer (some ⟨b7, 0, none⟩)] (.panicking [{ v := .iface u pv, recovered := false }]) w fun e u' w' =>
      e = .returned (.tuple #[]) ∧ u' = .panicking [{ v := .iface u pv, recovered := true }] ∧ w' = (w.setCell ⟨b6, 0, none⟩ (.int .i64 0)).setCell ⟨b7, 0, none⟩ (.int .i64 4) := by
  refine callsD_of_wpS Tryz.func87 rfl fun c₀ cs hu => ?_
  apply wpS_seq
  apply wpS_region
  simp [wpOpsS, go_sem, recoverD, hu, Tryz.ntmps87, Exit.thenS]
  refine wpS_cond (t := true) (by simp [Act.eval, Array.replicate]) ?_
  simp only [if_true]
  apply wpS_region
  simp [wpOpsS, go_sem, h6, f6, h7, f7, bodyPostS, results, Tryz.results87]

theorem read1_idle (b6 b7 : Nat) (w : World) :
    CallsD Tryz.prog 87 #[.pointer (some ⟨b6, 0, none⟩), .pointer (some ⟨b7, 0, none⟩)] .returning w fun e u' w' => e = .returned (.tuple #[]) ∧ u' = .returning ∧ w' = w := by
  refine callsD_of_wpS Tryz.func87 rfl fun c₀ cs hu => ?_
  apply wpS_seq
  apply wpS_region
  simp [wpOpsS, go_sem, recoverD, hu, Tryz.ntmps87, Exit.thenS]
  refine wpS_cond (t := false) (by simp [Act.eval, Array.replicate]) ?_
  simp only [Bool.false_eq_true, if_false]
  refine wpS_of_wp (wp_skip ?_)
  cases c₀
  simp_all [bodyPostS, results, Tryz.results87]

theorem split_short {s : Cs.Bs} {n : Nat} (hs : s.length ≤ n) : ∀ x ∈ Lib.splitN s [32] 8, x.length ≤ n := by
  have key : ∀ (k : Nat) (s : Cs.Bs), s.length ≤ n → ∀ x ∈ Lib.splitK [32] 0 k s, x.length ≤ n := fun k => by
    induction k with
    | zero =>
      intro s hs x hx
      rw [Lib.splitK, List.mem_singleton] at hx
      rw [hx]; exact hs
    | succ k ih =>
      intro s hs x hx
      rw [Lib.splitK] at hx
      split at hx
      · rw [List.mem_singleton] at hx
        rw [hx]; exact hs
      · rcases List.mem_cons.1 hx with hx | hx
        · rw [hx, List.length_take]; omega
        · exact ih _ (by rw [List.length_drop]; omega) x hx
  exact key _ s hs

theorem split_pos (s : Cs.Bs) : 0 < (Lib.splitN s [32] 8).length := by
  have key : ∀ (k : Nat) (s : Cs.Bs), 0 < (Lib.splitK [32] 0 k s).length := fun k s => by
    cases k with
    | zero => simp [Lib.splitK]
    | succ k =>
      rw [Lib.splitK]
      split <;> simp
  exact key _ s

theorem results_cells2 {P : Program} {fn : Func} {p q : Tmp} {ty ty2 : TypeId} (h : fn.results = #[.cell p ty, .cell q ty2]) (tmps : Array Value) (w : World) (g g2 : Nat) (v v2 : Value) (hp : tmps.getD p undef = .pointer (some ⟨g, 0, none⟩)) (hq : tmps.getD q undef = .pointer (some ⟨g2, 0, none⟩))
    (hc : w.cell? ⟨g, 0, none⟩ = some v) (hc2 : w.cell? ⟨g2, 0, none⟩ = some v2) (ha : ∀ w, (isAgg ty).run P w = .ok false w) (ha2 : ∀ w, (isAgg ty2).run P w = .ok false w) : (results fn tmps).run P w = .ok (.tuple #[v, v2]) w := by
  have hp' : tmps[p]?.getD undef = .pointer (some ⟨g, 0, none⟩) := by simpa using hp
  have hq' : tmps[q]?.getD undef = .pointer (some ⟨g2, 0, none⟩) := by simpa using hq
  simp [results, h, hp', hq', asAddr, go_sem, hc, hc2, ha, ha2, Result.andThen]

set_option maxHeartbeats 4000000 in
theorem read_any (kf kw : Nat) (capS : Array Value) (say : List Cs.Bs → Option Int) (write : Int → Cs.Bs) (s : Cs.Bs) (hs : s.length ≤ 1000000) (w : World) (hE : Env w)
    (hsay : ∀ A c ws W, Below w.heap.size w W → Env W → Rd W W.heap.size 1 A ws.length (wcells ws) → ws.length ≤ c → ws.length ≤ 8 → (∀ x ∈ ws, x.length ≤ 1000000) → 0 < ws.length → Calls Tryz.prog kf (#[.slice A ws.length c] ++ capS) W fun e w' => Rdn (say ws) e ∧ Below W.heap.size W w')
    (hwrite : ∀ n W, Env W → Calls Tryz.prog kw #[.int .i64 n] W fun e w' => e = .returned (sv (write n)) ∧ Below W.heap.size W w')
    (ef : ∀ args w, (callFunc kf args).run Tryz.prog w = .ok (.enter kf args) w) (ew : ∀ args w, (callFunc kw args).run Tryz.prog w = .ok (.enter kw args) w) :
    Calls Tryz.prog 75 #[sv s, .func (.func kf) #[] capS, .func (.func kw) #[] #[]] w fun e w' => e = .returned (.tuple #[.int .i64 (Cs.readF say write s).1, .int .i64 (Cs.readF say write s).2]) ∧ Below w.heap.size w w' := by
  have hmf : ∀ (fn : Fn) (first cap : Array Value) (w : World), (Instr.makeFunc fn first cap).run Tryz.prog w = .ok (.func fn first cap) w := fun _ _ _ _ => rfl
  have hB0 := ((Below.refl w.heap.size w).alloc (Nat.le_refl _) (.cells #[.int .i64 0] 3)).alloc (by simp) (.cells #[.int .i64 0] 33)
  have kn := (Bk.new w 3 #[.int .i64 0]).alloc (.cells #[.int .i64 0] 33)
  have ke := Bk.new (w.alloc (.cells #[.int .i64 0] 3)) 33 #[.int .i64 0]
  rw [World.size_alloc] at ke
  have HSP := Lib.hid (split_any s hs _ (hE.step hB0))
  have HSH := Lib.hid (split_short hs)
  have hs8 : (Lib.splitN s [32] 8).length ≤ 8 := by
    have := Lib.splitB_length_le ⟨#[32]⟩ 0 (min 8 (s.length + 1) - 1) ⟨s.toArray⟩
    have hd := Lib.splitB_data ⟨#[32]⟩ 0 (min 8 (s.length + 1) - 1) ⟨s.toArray⟩
    have h2 := congrArg List.length hd
    rw [List.length_map] at h2
    have h3 : Lib.splitN s [32] 8 = Lib.splitK [32] 0 (min 8 (s.length + 1) - 1) s := rfl
    rw [h3]
    simp only [] at h2
    rw [← h2]
    omega
  have HS0 := Lib.hid (split_pos s)
  obtain ⟨ws, hws⟩ : ∃ ws, Lib.splitN s [32] 8 = ws := ⟨_, rfl⟩
  rw [hws] at HSP HSH hs8 HS0
  have hrf : Cs.readF say write s = match say ws with | none => (0, 4) | some n => if write n = s then (n, 0) else (0, 4) := by rw [← hws]; rfl
  rw [sv_def]
  have HB0 := Lib.hid hB0
  have KN := Lib.hid kn
  have KE := Lib.hid ke
  have HSAY := Lib.hid hsay
  have HWR := Lib.hid hwrite
  have HE := Lib.hid hE
  rcases hsy : say ws with _ | n
  · rw [hsy] at hrf
    simp only [] at hrf
    rw [hrf]
    have HSY := Lib.hid hsy
    clear hrf hsy hB0 kn ke hsay hwrite hE hws
    go_enter_defers Tryz.func75, Tryz.ntmps75
    go_wp2_with fail
    refine HSP.out.mono ?_
    rintro e w1 ⟨A, c, rfl, hc, hR1, hb1⟩
    have hB1 := HB0.out.trans (hb1.mono HB0.out.size)
    have hn1 := KN.out.below hb1 (by simp; omega)
    have he1 := KE.out.below hb1 (by simp)
    have hE1 := HE.out.step hB1
    have HS1 := Lib.hid (HSAY.out A c ws w1 hB1 hE1 hR1 hc hs8 HSH.out HS0.out)
    have HB1 := Lib.hid hB1
    have HE1 := Lib.hid hE1
    have HN1 := Lib.hid hn1
    have HE2 := Lib.hid he1
    clear hB1 hn1 he1 hE1 hR1 hb1 hc
    go_wp2_with fail
    refine HS1.out.mono ?_
    rintro e w2 ⟨he, hb2⟩
    rw [HSY.out] at he
    have he' : e = .panicked [{ v := noForm, recovered := false }] := he
    subst he'
    clear he
    have kn2 := HN1.out.below hb2 HN1.out.lt
    have ke2 := HE2.out.below hb2 HE2.out.lt
    have HB2 := Lib.hid (HB1.out.trans (hb2.mono HB1.out.size))
    clear hb2
    simp only []
    refine leaves_cons (f := 87) (args := #[.pointer (some ⟨w.heap.size, 0, none⟩), .pointer (some ⟨w.heap.size + 1, 0, none⟩)]) (by simp) (by simp [go_sem]) ?_
    refine (read1_panicking w.heap.size (w.heap.size + 1) _ _ _ _ _ ((kn2.cell 0).trans rfl) (kn2.frozen 0) (((ke2.far (p := ⟨w.heap.size, 0, none⟩) (by simp) _).cell 0).trans rfl) ((ke2.far (p := ⟨w.heap.size, 0, none⟩) (by simp) _).frozen 0)).mono ?_
    rintro e u' w'' ⟨rfl, rfl, rfl⟩
    have k6 := (kn2.set 0 (.int .i64 0)).far (p := ⟨w.heap.size + 1, 0, none⟩) (by simp) (.int .i64 4)
    have k7 := (ke2.far (p := ⟨w.heap.size, 0, none⟩) (by simp) (.int .i64 0)).set 0 (.int .i64 4)
    refine ⟨_, results_cells2 rfl _ _ w.heap.size (w.heap.size + 1) _ _ rfl rfl ((k6.cell 0).trans rfl) ((k7.cell 0).trans rfl) Tryz.isAgg3 Tryz.isAgg33, rfl, (HB2.out.setCell (p := ⟨w.heap.size, 0, none⟩) (by simp) _).setCell (p := ⟨w.heap.size + 1, 0, none⟩) (by simp) _⟩
  · have HSY := Lib.hid hsy
    have hwr := fun W h => hwrite n W h
    rw [sv_def] at hwr
    obtain ⟨T, hT⟩ : ∃ T, write n = T := ⟨_, rfl⟩
    have hrf2 : Cs.readF say write s = if T = s then (n, 0) else (0, 4) := by rw [hrf, hsy, ← hT]
    rw [hrf2]
    obtain ⟨R, hR⟩ : ∃ R : Int × Int, (if T = s then (n, 0) else (0, 4)) = R := ⟨_, rfl⟩
    rw [hR]
    have HRES := Lib.hid hR
    clear hR
    rw [hT] at hwr
    have HWN := Lib.hid hwr
    clear hrf hrf2 hsy hB0 kn ke hsay hwrite hE hws hT hwr HWR
    go_enter_defers Tryz.func75, Tryz.ntmps75
    go_wp2_with fail
    refine HSP.out.mono ?_
    rintro e w1 ⟨A, c, rfl, hc, hR1, hb1⟩
    have hB1 := HB0.out.trans (hb1.mono HB0.out.size)
    have hn1 := KN.out.below hb1 (by simp; omega)
    have he1 := KE.out.below hb1 (by simp)
    have hE1 := HE.out.step hB1
    have HS1 := Lib.hid (HSAY.out A c ws w1 hB1 hE1 hR1 hc hs8 HSH.out HS0.out)
    have HB1 := Lib.hid hB1
    have HE1 := Lib.hid hE1
    have HN1 := Lib.hid hn1
    have HE2 := Lib.hid he1
    clear hB1 hn1 he1 hE1 hR1 hb1 hc
    go_wp2_with fail
    refine HS1.out.mono ?_
    rintro e w2 ⟨he, hb2⟩
    rw [HSY.out] at he
    have he' : e = .returned (.int .i64 n) := he
    subst he'
    clear he
    have kn2 := (HN1.out.below hb2 HN1.out.lt)
    have KE2 := Lib.hid ((HE2.out.below hb2 HE2.out.lt).far (p := ⟨w.heap.size, 0, none⟩) (by simp) (.int .i64 n))
    have hB2 := HB1.out.trans (hb2.mono HB1.out.size)
    have HB3 := Lib.hid (hB2.setCell (p := ⟨w.heap.size, 0, none⟩) (by simp) (.int .i64 n))
    have HK3 := Lib.hid (kn2.set 0 (.int .i64 n))
    have n0 := (kn2.cell 0).trans rfl
    have f0 := kn2.frozen 0
    have l0 := kn2.lt
    clear kn2 hB2 hb2
    simp only []
    go_wp2_with fail
    have HE3 := Lib.hid (HE.out.step HB3.out)
    refine (HWN.out _ HE3.out).mono ?_
    rintro e w4 ⟨rfl, hb4⟩
    have k4 := HK3.out.below hb4 HK3.out.lt
    have e4 := KE2.out.below hb4 KE2.out.lt
    have HB4 := Lib.hid (HB3.out.trans (hb4.mono HB3.out.size))
    clear hb4 n0 f0 l0
    rcases hq : (T == s) with _ | _
    · have hne : ¬ T = s := by simpa using hq
      have HR4 := Lib.hid (show R = (0, 4) by rw [← HRES.out, if_neg hne])
      have KN4 := Lib.hid k4
      have KE4 := Lib.hid e4
      clear hne k4 e4
      go_wp2_with fail
      refine leaves_cons (f := 87) (args := #[.pointer (some ⟨w.heap.size, 0, none⟩), .pointer (some ⟨w.heap.size + 1, 0, none⟩)]) (by simp) (by simp [go_sem]) ?_
      refine (read1_panicking w.heap.size (w.heap.size + 1) _ _ _ _ _ ((KN4.out.cell 0).trans rfl) (KN4.out.frozen 0) (((KE4.out.far (p := ⟨w.heap.size, 0, none⟩) (by simp) _).cell 0).trans rfl) ((KE4.out.far (p := ⟨w.heap.size, 0, none⟩) (by simp) _).frozen 0)).mono ?_
      rintro e u' w'' ⟨rfl, rfl, rfl⟩
      have k6 := (KN4.out.set 0 (.int .i64 0)).far (p := ⟨w.heap.size + 1, 0, none⟩) (by simp) (.int .i64 4)
      have k7 := (KE4.out.far (p := ⟨w.heap.size, 0, none⟩) (by simp) (.int .i64 0)).set 0 (.int .i64 4)
      refine ⟨_, results_cells2 rfl _ _ w.heap.size (w.heap.size + 1) _ _ rfl rfl ((k6.cell 0).trans rfl) ((k7.cell 0).trans rfl) Tryz.isAgg3 Tryz.isAgg33, by have h := HR4.out; subst h; rfl, (HB4.out.setCell (p := ⟨w.heap.size, 0, none⟩) (by simp) _).setCell (p := ⟨w.heap.size + 1, 0, none⟩) (by simp) _⟩
    · have heq : T = s := by simpa using hq
      have HR4 := Lib.hid (show R = (n, 0) by rw [← HRES.out, if_pos heq])
      have n0 := (k4.cell 0).trans rfl
      have f0 := k4.frozen 0
      have l0 := k4.lt
      have g0 := (e4.cell 0).trans rfl
      have g1 := e4.frozen 0
      have lg := e4.lt
      have KN4 := Lib.hid k4
      have KE4 := Lib.hid e4
      clear heq k4 e4
      go_wp2_with fail
      refine leaves_cons (f := 87) (args := #[.pointer (some ⟨w.heap.size, 0, none⟩), .pointer (some ⟨w.heap.size + 1, 0, none⟩)]) (by simp) (by simp [go_sem]) ?_
      refine (read1_idle w.heap.size (w.heap.size + 1) _).mono ?_
      rintro e u' w'' ⟨rfl, rfl, rfl⟩
      have k6 := (KN4.out.set 0 (.int .i64 n)).far (p := ⟨w.heap.size + 1, 0, none⟩) (by simp) (.int .i64 0)
      have k7 := (KE4.out.far (p := ⟨w.heap.size, 0, none⟩) (by simp) (.int .i64 n)).set 0 (.int .i64 0)
      refine ⟨_, results_cells2 rfl _ _ w.heap.size (w.heap.size + 1) _ _ rfl rfl ((k6.cell 0).trans rfl) ((k7.cell 0).trans rfl) Tryz.isAgg3 Tryz.isAgg33, by have h := HR4.out; subst h; rfl, (HB4.out.setCell (p := ⟨w.heap.size, 0, none⟩) (by simp) _).setCell (p := ⟨w.heap.size + 1, 0, none⟩) (by simp) _⟩

end Go.Proofs.YtncdeogpmodoaaaGreatDoor
