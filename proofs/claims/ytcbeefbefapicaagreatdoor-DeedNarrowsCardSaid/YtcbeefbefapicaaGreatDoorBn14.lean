/-
  What the claims of layer deed need of the texts Read, Lnk, Dir, Six.
-/
import Derived.Carry
import Derived.ChangeShapes
import Derived.Test.YtcbeefbefapicaaGreatDoorBn12
set_option linter.unusedVariables false
set_option linter.unusedSimpArgs false
namespace Go.Proofs.YtcbeefbefapicaaGreatDoor
open Go.RowKit Go.Shelf
set_option maxRecDepth 100000
theorem split_any (s : Cs.Bs) (hs : s.length ≤ 1000000) (w : World) (hE : Env w) :
  Calls Tryz.prog 207 #[.string ⟨s.toArray⟩, .string ⟨#[32]⟩, .int .i64 8] w fun e w' => ∃ A c, e = .returned (.slice A (Lib.splitN s [32] 8).length c) ∧ (Lib.splitN s [32] 8).length ≤ c ∧ Rd w' w'.heap.size 1 A (Lib.splitN s [32] 8).length (wcells (Lib.splitN s [32] 8)) ∧ Below w.heap.size w w' := by
 obtain ⟨m, hm⟩ := hE.mx
 have h := Tryz.strings_SplitN ⟨s.toArray⟩ ⟨#[32]⟩ 8 m w (by simp [ByteArray.size]; omega) hm (by decide) (by decide) (by decide)
 have hd := Lib.splitB_data ⟨#[32]⟩ 0 (min 8 ((⟨s.toArray⟩ : ByteArray).size + 1) - 1) ⟨s.toArray⟩
 have e1 : Lib.splitN s [32] 8 = (Lib.splitB ⟨#[32]⟩ 0 (min 8 ((⟨s.toArray⟩ : ByteArray).size + 1) - 1) ⟨s.toArray⟩).map (·.data.toList) := by
  rw [hd]
  simp [Lib.splitN, ByteArray.size]
 obtain ⟨L, hL⟩ : ∃ L, Lib.splitB ⟨#[32]⟩ 0 (min 8 ((⟨s.toArray⟩ : ByteArray).size + 1) - 1) ⟨s.toArray⟩ = L := ⟨_, rfl⟩
 have hle := Lib.splitB_length_le ⟨#[32]⟩ 0 (min 8 ((⟨s.toArray⟩ : ByteArray).size + 1) - 1) ⟨s.toArray⟩
 rw [hL] at h e1 hle
 obtain ⟨c, hc⟩ : ∃ c, min 8 ((⟨s.toArray⟩ : ByteArray).size + 1) = c := ⟨_, rfl⟩
 rw [hc] at h hle
 have hc1 : 1 ≤ c := by omega
 refine h.mono ?_
 rintro e w' ⟨he, rfl⟩
 refine ⟨some ⟨w.heap.size, 0, none⟩, c, by rw [he, e1, List.length_map], by rw [e1, List.length_map]; omega, ?_, (Below.refl _ _).alloc (Nat.le_refl _) _⟩
 rw [e1]
 refine ⟨by simp [wcells], fun hp => ⟨_, _, rfl, by simp, fun j hj => ?_⟩⟩
 have hj' : j < L.length := by simpa using hj
 rw [(Bk.new w _ _).cell]
 simp [Lib.cellsOf, wcells, sv, hj', List.getElem?_append_left]
theorem read1_panicking (b6 b7 : Nat) (x y : Value) (u : TypeId) (pv : Value) (w : World) (h6 : w.cell? ⟨b6, 0, none⟩ = some x) (f6 : w.frozen? ⟨b6, 0, none⟩ = false) (h7 : (w.setCell ⟨b6, 0, none⟩ (.int .i64 0)).cell? ⟨b7, 0, none⟩ = some y) (f7 : (w.setCell ⟨b6, 0, none⟩ (.int .i64 0)).frozen? ⟨b7, 0, none⟩ = false) :
  CallsD Tryz.prog 206 #[.pointer (some ⟨b6, 0, none⟩), .pointer (some ⟨b7, 0, none⟩)] (.panicking [{ v := .iface u pv, recovered := false }]) w fun e u' w' =>
   e = .returned (.tuple #[]) ∧ u' = .panicking [{ v := .iface u pv, recovered := true }] ∧ w' = (w.setCell ⟨b6, 0, none⟩ (.int .i64 0)).setCell ⟨b7, 0, none⟩ (.int .i64 4) := by
 refine callsD_of_wpS Tryz.func206 rfl fun c₀ cs hu => ?_
 apply wpS_seq
 apply wpS_region
 simp [wpOpsS, go_sem, recoverD, hu, Tryz.ntmps206, Exit.thenS]
 refine wpS_cond (t := true) (by simp [Act.eval, Array.replicate]) ?_
 simp only [if_true]
 apply wpS_region
 simp [wpOpsS, go_sem, h6, f6, h7, f7, bodyPostS, results, Tryz.results206]
theorem read1_idle (b6 b7 : Nat) (w : World) :
  CallsD Tryz.prog 206 #[.pointer (some ⟨b6, 0, none⟩), .pointer (some ⟨b7, 0, none⟩)] .returning w fun e u' w' => e = .returned (.tuple #[]) ∧ u' = .returning ∧ w' = w := by
 refine callsD_of_wpS Tryz.func206 rfl fun c₀ cs hu => ?_
 apply wpS_seq
 apply wpS_region
 simp [wpOpsS, go_sem, recoverD, hu, Tryz.ntmps206, Exit.thenS]
 refine wpS_cond (t := false) (by simp [Act.eval, Array.replicate]) ?_
 simp only [Bool.false_eq_true, if_false]
 refine wpS_of_wp (wp_skip ?_)
 cases c₀
 simp_all [bodyPostS, results, Tryz.results206]
theorem split_short {s : Cs.Bs} {n : Nat} (hs : s.length ≤ n) : ∀ x ∈ Lib.splitN s [32] 8, x.length ≤ n := by
  have key : ∀ (k : Nat) (s : Cs.Bs), s.length ≤ n → ∀ x ∈ Lib.splitK [32] 0 k s, x.length ≤ n := fun k => by
    induction k with
    | zero =>
      intro s hs x hx
      rw [Lib.splitK, List.mem_singleton] at hx
      rw [hx]; exact hs
    | succ k ih =>
      intro s hs x hx
      rw [Lib.splitK] at hx
      split at hx
      · rw [List.mem_singleton] at hx
        rw [hx]; exact hs
      · rcases List.mem_cons.1 hx with hx | hx
        · rw [hx, List.length_take]; omega
        · exact ih _ (by rw [List.length_drop]; omega) x hx
  exact key _ s hs
theorem split_pos (s : Cs.Bs) : 0 < (Lib.splitN s [32] 8).length := by
  have key : ∀ (k : Nat) (s : Cs.Bs), 0 < (Lib.splitK [32] 0 k s).length := fun k s => by
    cases k with
    | zero => simp [Lib.splitK]
    | succ k =>
      rw [Lib.splitK]
      split <;> simp
  exact key _ s
theorem results_cells2 {P : Program} {fn : Func} {p q : Tmp} {ty ty2 : TypeId} (h : fn.results = #[.cell p ty, .cell q ty2]) (tmps : Array Value) (w : World) (g g2 : Nat) (v v2 : Value) (hp : tmps.getD p undef = .pointer (some ⟨g, 0, none⟩)) (hq : tmps.getD q undef = .pointer (some ⟨g2, 0, none⟩))
  (hc : w.cell? ⟨g, 0, none⟩ = some v) (hc2 : w.cell? ⟨g2, 0, none⟩ = some v2) (ha : ∀ w, (isAgg ty).run P w = .ok false w) (ha2 : ∀ w, (isAgg ty2).run P w = .ok false w) : (results fn tmps).run P w = .ok (.tuple #[v, v2]) w := by
 have hp' : tmps[p]?.getD undef = .pointer (some ⟨g, 0, none⟩) := by simpa using hp
 have hq' : tmps[q]?.getD undef = .pointer (some ⟨g2, 0, none⟩) := by simpa using hq
 simp [results, h, hp', hq', asAddr, go_sem, hc, hc2, ha, ha2, Result.andThen]
set_option maxHeartbeats 4000000 in
theorem read_any (kf kw : Nat) (capS : Array Value) (say : List Cs.Bs → Option Int) (write : Int → Cs.Bs) (s : Cs.Bs) (hs : s.length ≤ 1000000) (w : World) (hE : Env w)
  (hsay : ∀ A c ws W, Below w.heap.size w W → Env W → Rd W W.heap.size 1 A ws.length (wcells ws) → ws.length ≤ c → ws.length ≤ 8 → (∀ x ∈ ws, x.length ≤ 1000000) → 0 < ws.length → Calls Tryz.prog kf (#[.slice A ws.length c] ++ capS) W fun e w' => Rdn (say ws) e ∧ Below W.heap.size W w')
  (hwrite : ∀ n W, Env W → Calls Tryz.prog kw #[.int .i64 n] W fun e w' => e = .returned (sv (write n)) ∧ Below W.heap.size W w')
  (ef : ∀ args w, (callFunc kf args).run Tryz.prog w = .ok (.enter kf args) w) (ew : ∀ args w, (callFunc kw args).run Tryz.prog w = .ok (.enter kw args) w) :
  Calls Tryz.prog 181 #[sv s, .func (.func kf) #[] capS, .func (.func kw) #[] #[]] w fun e w' => e = .returned (.tuple #[.int .i64 (Cs.readF say write s).1, .int .i64 (Cs.readF say write s).2]) ∧ Below w.heap.size w w' := by
 have hmf : ∀ (fn : Fn) (first cap : Array Value) (w : World), (Instr.makeFunc fn first cap).run Tryz.prog w = .ok (.func fn first cap) w := fun _ _ _ _ => rfl
 have hB0 := ((Below.refl w.heap.size w).alloc (Nat.le_refl _) (.cells #[.int .i64 0] 3)).alloc (by simp) (.cells #[.int .i64 0] 30)
 have kn := (Bk.new w 3 #[.int .i64 0]).alloc (.cells #[.int .i64 0] 30)
 have ke := Bk.new (w.alloc (.cells #[.int .i64 0] 3)) 30 #[.int .i64 0]
 rw [World.size_alloc] at ke
 have HSP := Lib.hid (split_any s hs _ (hE.step hB0))
 have HSH := Lib.hid (split_short hs)
 have hs8 : (Lib.splitN s [32] 8).length ≤ 8 := by
  have := Lib.splitB_length_le ⟨#[32]⟩ 0 (min 8 (s.length + 1) - 1) ⟨s.toArray⟩
  have hd := Lib.splitB_data ⟨#[32]⟩ 0 (min 8 (s.length + 1) - 1) ⟨s.toArray⟩
  have h2 := congrArg List.length hd
  rw [List.length_map] at h2
  have h3 : Lib.splitN s [32] 8 = Lib.splitK [32] 0 (min 8 (s.length + 1) - 1) s := rfl
  rw [h3]
  simp only [] at h2
  rw [← h2]
  omega
 have HS0 := Lib.hid (split_pos s)
 obtain ⟨ws, hws⟩ : ∃ ws, Lib.splitN s [32] 8 = ws := ⟨_, rfl⟩
 rw [hws] at HSP HSH hs8 HS0
 have hrf : Cs.readF say write s = match say ws with | none => (0, 4) | some n => if write n = s then (n, 0) else (0, 4) := by rw [← hws]; rfl
 rw [sv_def]
 have HB0 := Lib.hid hB0
 have KN := Lib.hid kn
 have KE := Lib.hid ke
 have HSAY := Lib.hid hsay
 have HWR := Lib.hid hwrite
 have HE := Lib.hid hE
 rcases hsy : say ws with _ | n
 ·rw [hsy] at hrf
  simp only [] at hrf
  rw [hrf]
  have HSY := Lib.hid hsy
  clear hrf hsy hB0 kn ke hsay hwrite hE hws
  go_enter_defers Tryz.func181, Tryz.ntmps181
  go_wp2_with fail
  refine HSP.out.mono ?_
  rintro e w1 ⟨A, c, rfl, hc, hR1, hb1⟩
  have hB1 := HB0.out.trans (hb1.mono HB0.out.size)
  have hn1 := KN.out.below hb1 (by simp; omega)
  have he1 := KE.out.below hb1 (by simp)
  have hE1 := HE.out.step hB1
  have HS1 := Lib.hid (HSAY.out A c ws w1 hB1 hE1 hR1 hc hs8 HSH.out HS0.out)
  have HB1 := Lib.hid hB1
  have HE1 := Lib.hid hE1
  have HN1 := Lib.hid hn1
  have HE2 := Lib.hid he1
  clear hB1 hn1 he1 hE1 hR1 hb1 hc
  go_wp2_with fail
  refine HS1.out.mono ?_
  rintro e w2 ⟨he, hb2⟩
  rw [HSY.out] at he
  have he' : e = .panicked [{ v := noForm, recovered := false }] := he
  subst he'
  clear he
  have kn2 := HN1.out.below hb2 HN1.out.lt
  have ke2 := HE2.out.below hb2 HE2.out.lt
  have HB2 := Lib.hid (HB1.out.trans (hb2.mono HB1.out.size))
  clear hb2
  simp only []
  refine leaves_cons (f := 206) (args := #[.pointer (some ⟨w.heap.size, 0, none⟩), .pointer (some ⟨w.heap.size + 1, 0, none⟩)]) (by simp) (by simp [go_sem]) ?_
  refine (read1_panicking w.heap.size (w.heap.size + 1) _ _ _ _ _ ((kn2.cell 0).trans rfl) (kn2.frozen 0) (((ke2.far (p := ⟨w.heap.size, 0, none⟩) (by simp) _).cell 0).trans rfl) ((ke2.far (p := ⟨w.heap.size, 0, none⟩) (by simp) _).frozen 0)).mono ?_
  rintro e u' w'' ⟨rfl, rfl, rfl⟩
  have k6 := (kn2.set 0 (.int .i64 0)).far (p := ⟨w.heap.size + 1, 0, none⟩) (by simp) (.int .i64 4)
  have k7 := (ke2.far (p := ⟨w.heap.size, 0, none⟩) (by simp) (.int .i64 0)).set 0 (.int .i64 4)
  refine ⟨_, results_cells2 rfl _ _ w.heap.size (w.heap.size + 1) _ _ rfl rfl ((k6.cell 0).trans rfl) ((k7.cell 0).trans rfl) Tryz.isAgg3 Tryz.isAgg30, rfl, (HB2.out.setCell (p := ⟨w.heap.size, 0, none⟩) (by simp) _).setCell (p := ⟨w.heap.size + 1, 0, none⟩) (by simp) _⟩
 ·have HSY := Lib.hid hsy
  have hwr := fun W h => hwrite n W h
  rw [sv_def] at hwr
  obtain ⟨T, hT⟩ : ∃ T, write n = T := ⟨_, rfl⟩
  have hrf2 : Cs.readF say write s = if T = s then (n, 0) else (0, 4) := by rw [hrf, hsy, ← hT]
  rw [hrf2]
  obtain ⟨R, hR⟩ : ∃ R : Int × Int, (if T = s then (n, 0) else (0, 4)) = R := ⟨_, rfl⟩
  rw [hR]
  have HRES := Lib.hid hR
  clear hR
  rw [hT] at hwr
  have HWN := Lib.hid hwr
  clear hrf hrf2 hsy hB0 kn ke hsay hwrite hE hws hT hwr HWR
  go_enter_defers Tryz.func181, Tryz.ntmps181
  go_wp2_with fail
  refine HSP.out.mono ?_
  rintro e w1 ⟨A, c, rfl, hc, hR1, hb1⟩
  have hB1 := HB0.out.trans (hb1.mono HB0.out.size)
  have hn1 := KN.out.below hb1 (by simp; omega)
  have he1 := KE.out.below hb1 (by simp)
  have hE1 := HE.out.step hB1
  have HS1 := Lib.hid (HSAY.out A c ws w1 hB1 hE1 hR1 hc hs8 HSH.out HS0.out)
  have HB1 := Lib.hid hB1
  have HE1 := Lib.hid hE1
  have HN1 := Lib.hid hn1
  have HE2 := Lib.hid he1
  clear hB1 hn1 he1 hE1 hR1 hb1 hc
  go_wp2_with fail
  refine HS1.out.mono ?_
  rintro e w2 ⟨he, hb2⟩
  rw [HSY.out] at he
  have he' : e = .returned (.int .i64 n) := he
  subst he'
  clear he
  have kn2 := (HN1.out.below hb2 HN1.out.lt)
  have KE2 := Lib.hid ((HE2.out.below hb2 HE2.out.lt).far (p := ⟨w.heap.size, 0, none⟩) (by simp) (.int .i64 n))
  have hB2 := HB1.out.trans (hb2.mono HB1.out.size)
  have HB3 := Lib.hid (hB2.setCell (p := ⟨w.heap.size, 0, none⟩) (by simp) (.int .i64 n))
  have HK3 := Lib.hid (kn2.set 0 (.int .i64 n))
  have n0 := (kn2.cell 0).trans rfl
  have f0 := kn2.frozen 0
  have l0 := kn2.lt
  clear kn2 hB2 hb2
  simp only []
  go_wp2_with fail
  have HE3 := Lib.hid (HE.out.step HB3.out)
  refine (HWN.out _ HE3.out).mono ?_
  rintro e w4 ⟨rfl, hb4⟩
  have k4 := HK3.out.below hb4 HK3.out.lt
  have e4 := KE2.out.below hb4 KE2.out.lt
  have HB4 := Lib.hid (HB3.out.trans (hb4.mono HB3.out.size))
  clear hb4 n0 f0 l0
  rcases hq : (T == s) with _ | _
  ·have hne : ¬ T = s := by simpa using hq
   have HR4 := Lib.hid (show R = (0, 4) by rw [← HRES.out, if_neg hne])
   have KN4 := Lib.hid k4
   have KE4 := Lib.hid e4
   clear hne k4 e4
   go_wp2_with fail
   refine leaves_cons (f := 206) (args := #[.pointer (some ⟨w.heap.size, 0, none⟩), .pointer (some ⟨w.heap.size + 1, 0, none⟩)]) (by simp) (by simp [go_sem]) ?_
   refine (read1_panicking w.heap.size (w.heap.size + 1) _ _ _ _ _ ((KN4.out.cell 0).trans rfl) (KN4.out.frozen 0) (((KE4.out.far (p := ⟨w.heap.size, 0, none⟩) (by simp) _).cell 0).trans rfl) ((KE4.out.far (p := ⟨w.heap.size, 0, none⟩) (by simp) _).frozen 0)).mono ?_
   rintro e u' w'' ⟨rfl, rfl, rfl⟩
   have k6 := (KN4.out.set 0 (.int .i64 0)).far (p := ⟨w.heap.size + 1, 0, none⟩) (by simp) (.int .i64 4)
   have k7 := (KE4.out.far (p := ⟨w.heap.size, 0, none⟩) (by simp) (.int .i64 0)).set 0 (.int .i64 4)
   refine ⟨_, results_cells2 rfl _ _ w.heap.size (w.heap.size + 1) _ _ rfl rfl ((k6.cell 0).trans rfl) ((k7.cell 0).trans rfl) Tryz.isAgg3 Tryz.isAgg30, by have h := HR4.out; subst h; rfl, (HB4.out.setCell (p := ⟨w.heap.size, 0, none⟩) (by simp) _).setCell (p := ⟨w.heap.size + 1, 0, none⟩) (by simp) _⟩
  ·have heq : T = s := by simpa using hq
   have HR4 := Lib.hid (show R = (n, 0) by rw [← HRES.out, if_pos heq])
   have n0 := (k4.cell 0).trans rfl
   have f0 := k4.frozen 0
   have l0 := k4.lt
   have g0 := (e4.cell 0).trans rfl
   have g1 := e4.frozen 0
   have lg := e4.lt
   have KN4 := Lib.hid k4
   have KE4 := Lib.hid e4
   clear heq k4 e4
   go_wp2_with fail
   refine leaves_cons (f := 206) (args := #[.pointer (some ⟨w.heap.size, 0, none⟩), .pointer (some ⟨w.heap.size + 1, 0, none⟩)]) (by simp) (by simp [go_sem]) ?_
   refine (read1_idle w.heap.size (w.heap.size + 1) _).mono ?_
   rintro e u' w'' ⟨rfl, rfl, rfl⟩
   have k6 := (KN4.out.set 0 (.int .i64 n)).far (p := ⟨w.heap.size + 1, 0, none⟩) (by simp) (.int .i64 0)
   have k7 := (KE4.out.far (p := ⟨w.heap.size, 0, none⟩) (by simp) (.int .i64 n)).set 0 (.int .i64 0)
   refine ⟨_, results_cells2 rfl _ _ w.heap.size (w.heap.size + 1) _ _ rfl rfl ((k6.cell 0).trans rfl) ((k7.cell 0).trans rfl) Tryz.isAgg3 Tryz.isAgg30, by have h := HR4.out; subst h; rfl, (HB4.out.setCell (p := ⟨w.heap.size, 0, none⟩) (by simp) _).setCell (p := ⟨w.heap.size + 1, 0, none⟩) (by simp) _⟩
end Go.Proofs.YtcbeefbefapicaaGreatDoor

namespace Go.Proofs.YtcbeefbefapicaaGreatDoor
open Go.RowKit Go.Shelf
set_option maxRecDepth 100000
theorem sumM_any (g : Nat) (w : World) :
  Calls Tryz.prog 182 #[.func (.func g) #[] #[]] w fun e w' => e = .returned (.func (.func 208) #[] #[.pointer (some ⟨w.heap.size, 0, none⟩)]) ∧ w' = w.alloc (.cells #[.func (.func g) #[] #[]] 249) := by
 have hmf : ∀ (fn : Fn) (first cap : Array Value) (w : World), (Instr.makeFunc fn first cap).run Tryz.prog w = .ok (.func fn first cap) w := fun _ _ _ _ => rfl
 go_enter Tryz.func182, Tryz.ntmps182
 go_wp2
 go_ret
 exact ⟨rfl, rfl⟩
set_option maxHeartbeats 2000000 in
theorem Links_any (s : Cs.Bs) (hs : s.length ≤ 1000000) (w : World) (hE : Env w) :
  Calls Tryz.prog 168 #[sv s] w fun e w' => e = .returned (.tuple #[.int .i64 (Cs.lnkF s).1, .int .i64 (Cs.lnkF s).2]) ∧ Below w.heap.size w w' := by
 have hB0 := (Below.refl w.heap.size w).alloc (Nat.le_refl _) (.cells #[.func (.func 183) #[] #[]] 249)
 have kU := Bk.new w 249 #[.func (.func 183) #[] #[]]
 have hrd := read_any 208 184 #[.pointer (some ⟨w.heap.size, 0, none⟩)] (Cs.sumF Cs.lenU 0) Cs.lenF s hs _ (hE.step hB0)
  (fun A c ws W hb hEW hR hc hn hl _ => sum1_any 183 lenO (fun n h Kp w => lengths_stops n h Kp w) (enters_of Tryz.func183 (by kernel_rfl) rfl) w.heap.size _ A c ws W hEW (kU.below hb (by simp)) hR hc (by omega) hl)
  (fun n W h => Length_any n W h) (enters_of Tryz.func208 (by kernel_rfl) rfl) (enters_of Tryz.func184 (by kernel_rfl) rfl)
 have e1 : Cs.readF (Cs.sumF Cs.lenU 0) Cs.lenF s = Cs.lnkF s := rfl
 rw [e1] at hrd
 obtain ⟨⟨n, er⟩, hr⟩ : ∃ q, Cs.lnkF s = q := ⟨_, rfl⟩
 rw [hr] at hrd ⊢
 rw [sv_def] at hrd ⊢
 have HB0 := Lib.hid hB0
 have HRD := Lib.hid hrd
 clear hB0 kU hrd e1 hr hE
 go_enter Tryz.func168, Tryz.ntmps168
 go_wp2_with (go_at_call 182; refine (sumM_any _ _).mono ?_; rintro e w' ⟨rfl, rfl⟩)
 refine HRD.out.mono ?_
 rintro e w1 ⟨rfl, hb1⟩
 have HB1 := Lib.hid (HB0.out.trans (hb1.mono HB0.out.size))
 clear hb1
 go_wp2_with fail
 go_ret2
 exact ⟨rfl, HB1.out⟩
end Go.Proofs.YtcbeefbefapicaaGreatDoor

namespace Go.Proofs.YtcbeefbefapicaaGreatDoor
open Go.RowKit
set_option maxRecDepth 100000
def qcells : Array Value := #[sv Cs.wNorth, sv Cs.wEast, sv Cs.wSouth, sv Cs.wWest]
theorem quarters_any (w : World) : Calls Tryz.prog 215 #[] w fun e w' => e = .returned (.slice (some ⟨w.heap.size, 0, none⟩) 4 4) ∧ w' = w.alloc (.cells qcells 9) := by
 go_enter Tryz.func215, Tryz.ntmps215
 go_wp2
 go_ret
 exact ⟨rfl, rfl⟩
theorem quarters_bk (w : World) : Calls Tryz.prog 215 #[] w fun e w' => ∃ g, e = .returned (.slice (some ⟨g, 0, none⟩) 4 4) ∧ Bk w' g 9 qcells ∧ Below w.heap.size w w' := by
 refine (quarters_any w).mono ?_
 rintro e w' ⟨rfl, rfl⟩
 exact ⟨_, rfl, Bk.new _ _ _, (Below.refl _ _).alloc (Nat.le_refl _) _⟩
def qlist : List ByteArray := Cs.quarters.map fun l => ⟨l.toArray⟩
theorem ba_eq {a b : Cs.Bs} : ((⟨a.toArray⟩ : ByteArray) = ⟨b.toArray⟩) ↔ a = b := by
 constructor
 ·intro h
  have := congrArg (fun x => x.data.toList) h
  simpa using this
 ·rintro rfl; rfl
theorem idx_is (w0 : Cs.Bs) : Lib.idxOfS (qlist.take 4) ⟨w0.toArray⟩ = Cs.idxQ w0 := by
 unfold Lib.idxOfS qlist Cs.quarters Cs.idxQ
 simp only [List.map_cons, List.map_nil, List.take_succ_cons, List.take_zero, Lib.idxFromS, ba_eq, eq_comm (b := w0)]
 split
 ·rfl
 ·split
  ·rfl
  ·split
   ·rfl
   ·split
    ·rfl
    ·rfl
theorem index_any (w0 : Cs.Bs) (B : Nat) (w : World) (hk : Bk w B 9 qcells) :
  Calls Tryz.prog 185 #[.slice (some ⟨B, 0, none⟩) 4 4, .string ⟨w0.toArray⟩] w fun e w' => e = .returned (.int .i64 (Cs.idxQ w0)) ∧ Below w.heap.size w w' := by
 have h := Tryz.slices_Index_string B 0 4 4 qlist ⟨w0.toArray⟩ w (by decide) (by decide) (fun j hj => by
  have hj4 : j < 4 := hj
  have h4 : j = 0 ∨ j = 1 ∨ j = 2 ∨ j = 3 := by omega
  rw [Nat.zero_add]
  rcases h4 with rfl | rfl | rfl | rfl <;> exact (hk.cell _).trans rfl)
 rw [idx_is] at h
 refine h.mono ?_
 rintro e w' ⟨he, rfl⟩
 exact ⟨he, Below.refl _ _⟩
theorem rd_word {w : World} {B : Nat} {A : Option Addr} {ws : List Cs.Bs} (h : Rd w B 1 A ws.length (wcells ws)) (h0 : 0 < ws.length) :
  ∃ b off, A = some ⟨b, off, none⟩ ∧ b < B ∧ ∀ k (hk : k < ws.length), w.cell? ⟨b, off + k, none⟩ = some (.string ⟨ws[k].toArray⟩) := by
 obtain ⟨b, off, e, hb, hc⟩ := h.2 h0
 refine ⟨b, off, e, hb, fun k hk => ?_⟩
 rw [hc k (by omega)]
 simp [wcells, sv, hk]
set_option maxHeartbeats 4000000 in
theorem direction_any (A : Option Addr) (c : Nat) (ws : List Cs.Bs) (W : World) (hE : Env W) (hR : Rd W W.heap.size 1 A ws.length (wcells ws)) (hc : ws.length ≤ c) (hn : ws.length ≤ 8) (hl : ∀ x ∈ ws, x.length ≤ 1000000) (h0 : 0 < ws.length) :
  Calls Tryz.prog 187 #[.slice A ws.length c] W fun e w' => Rdn (Cs.dirF ws) e ∧ Below W.heap.size W w' := by
 obtain ⟨b, off, rfl, hb, hw⟩ := rd_word hR h0
 obtain ⟨w0, r, rfl⟩ : ∃ w0 r, ws = w0 :: r := by
  cases ws with
  | nil => simp at h0
  | cons w0 r => exact ⟨w0, r, rfl⟩
 have q0 := hw 0 (by simp)
 simp only [Nat.add_zero, List.getElem_cons_zero] at q0
 obtain ⟨n, hnl⟩ : ∃ n, (w0 :: r).length = n := ⟨_, rfl⟩
 have hIX := fun B w hk => index_any w0 B w hk
 have hr4 : -1 ≤ Cs.idxQ w0 ∧ Cs.idxQ w0 ≤ 3 := by unfold Cs.idxQ; constructor <;> (repeat' split) <;> decide
 obtain ⟨i, hi⟩ : ∃ i, Cs.idxQ w0 = i := ⟨_, rfl⟩
 rw [hi] at hIX hr4
 rw [hnl] at h0 hn hc
 have HSB := Lib.hid (show ∀ V, Below W.heap.size W V → V.cell? ⟨b, off, none⟩ = some (.string ⟨w0.toArray⟩) from fun V h => (h.cell (p := ⟨b, off, none⟩) hb).trans q0)
 have HIX := Lib.hid hIX
 have HE := Lib.hid hE
 have HW := Lib.hid hw
 have HL := Lib.hid hl
 clear hIX hE hw hl q0 hR
 obtain ⟨r0, r1⟩ := hr4
 by_cases h1 : n = 1
 ·subst h1
  obtain rfl : r = [] := by cases r with | nil => rfl | cons x y => simp at hnl
  by_cases hi0 : 0 ≤ i
  ·have hF : Cs.dirF [w0] = some (90 * i) := by rw [Cs.dirF, hi, if_pos hi0]
   have HF := Lib.hid (Rdn.some_ hF)
   have hd : decide (0 ≤ i) = true := decide_eq_true hi0
   clear hF hi hi0
   show Calls Tryz.prog 187 #[.slice (some ⟨b, off, none⟩) 1 c] W _
   go_enter Tryz.func187, Tryz.ntmps187
   go_wp2_with fail
   have hbZ : Below W.heap.size W W.drew := (Below.refl _ _).drew
   go_region_held3 (fun V => V.cell? ⟨b, off, none⟩ = some (.string ⟨w0.toArray⟩))
    (first
     | ((try dsimp only); first | (with_reducible exact HSB.out _ hbD) | (with_reducible exact HSB.out _ hbA) | (with_reducible exact HSB.out _ hbZ)))
    (first
     | (go_at_call 215; refine (quarters_bk _).mono ?_; rintro e wA ⟨gA, rfl, hkA, hba⟩; have hbA : Below W.heap.size W wA := hbZ.trans (hba.mono hbZ.size))
     | (go_at_call 185; refine (HIX.out _ _ hkA).mono ?_; rintro e wD ⟨rfl, hbd⟩; have hbD : Below W.heap.size W wD := hbA.trans (hbd.mono hbA.size)))
   all_goals
    go_wp2_with fail
    go_ret
    exact ⟨HF.out, hbD⟩
  ·have hF : Cs.dirF [w0] = none := by rw [Cs.dirF, hi, if_neg hi0]
   have HF := Lib.hid (Rdn.none_ hF)
   have hd : decide (0 ≤ i) = false := decide_eq_false hi0
   clear hF hi hi0
   show Calls Tryz.prog 187 #[.slice (some ⟨b, off, none⟩) 1 c] W _
   go_enter Tryz.func187, Tryz.ntmps187
   go_wp2_with fail
   have hbZ : Below W.heap.size W W.drew := (Below.refl _ _).drew
   go_region_held3 (fun V => V.cell? ⟨b, off, none⟩ = some (.string ⟨w0.toArray⟩))
    (first
     | ((try dsimp only); first | (with_reducible exact HSB.out _ hbD) | (with_reducible exact HSB.out _ hbA) | (with_reducible exact HSB.out _ hbZ)))
    (first
     | (go_at_call 215; refine (quarters_bk _).mono ?_; rintro e wA ⟨gA, rfl, hkA, hba⟩; have hbA : Below W.heap.size W wA := hbZ.trans (hba.mono hbZ.size))
     | (go_at_call 185; refine (HIX.out _ _ hkA).mono ?_; rintro e wD ⟨rfl, hbd⟩; have hbD : Below W.heap.size W wD := hbA.trans (hbd.mono hbA.size)))
   all_goals
    go_wp2_with fail
    exact ⟨rfl, HF.out, hbD⟩
 ·by_cases h3 : n = 3
  ·subst h3
   obtain ⟨w1, w2, rfl⟩ : ∃ w1 w2, r = [w1, w2] := by
    match r, hnl with
    | [w1, w2], _ => exact ⟨w1, w2, rfl⟩
   have q1 := HW.out 1 (by simp)
   have q2 := HW.out 2 (by simp)
   simp only [List.getElem_cons_succ, List.getElem_cons_zero] at q1 q2
   have l0 := HL.out w0 (by simp)
   have l1 := HL.out w1 (by simp)
   have l2 := HL.out w2 (by simp)
   have HS1 := Lib.hid (show ∀ V, Below W.heap.size W V → V.cell? ⟨b, off + 1, none⟩ = some (.string ⟨w1.toArray⟩) from fun V h => (h.cell (p := ⟨b, off + 1, none⟩) hb).trans q1)
   have HS2 := Lib.hid (show ∀ V, Below W.heap.size W V → V.cell? ⟨b, off + 2, none⟩ = some (.string ⟨w2.toArray⟩) from fun V h => (h.cell (p := ⟨b, off + 2, none⟩) hb).trans q2)
   clear q1 q2 HW HL hi h1
   rcases hnum : Cs.numF w1 with _ | k
   ·have hF : Cs.dirF [w0, w1, w2] = none := by rw [Cs.dirF, hnum]
    have HF := Lib.hid (Rdn.none_ hF)
    have hno := fun W h => number_no w1 hnum l1 W h
    rw [sv_def] at hno
    have HNO := Lib.hid hno
    clear hF hno hnum
    rcases hd : decide (0 ≤ i) with _ | _
    all_goals
     show Calls Tryz.prog 187 #[.slice (some ⟨b, off, none⟩) 3 c] W _
     go_enter Tryz.func187, Tryz.ntmps187
     go_wp2_with fail
     have hbZ : Below W.heap.size W W.drew := (Below.refl _ _).drew
     go_region_held3 (fun V => V.cell? ⟨b, off, none⟩ = some (.string ⟨w0.toArray⟩))
      (first
       | ((try dsimp only); first | (with_reducible exact HSB.out _ hbD) | (with_reducible exact HSB.out _ hbA) | (with_reducible exact HSB.out _ hbZ)))
      (first
       | (go_at_call 215; refine (quarters_bk _).mono ?_; rintro e wA ⟨gA, rfl, hkA, hba⟩; have hbA : Below W.heap.size W wA := hbZ.trans (hba.mono hbZ.size))
       | (go_at_call 185; refine (HIX.out _ _ hkA).mono ?_; rintro e wD ⟨rfl, hbd⟩; have hbD : Below W.heap.size W wD := hbA.trans (hbd.mono hbA.size)))
     all_goals
      have q1 := HS1.out _ hbD
      have lb : b < wD.heap.size := Nat.lt_of_lt_of_le hb hbD.size
      go_wp2_with fail
      refine (HNO.out _ (HE.out.step hbD)).mono ?_
      rintro e wE ⟨rfl, hbe⟩
      have hbE : Below W.heap.size W wE := hbD.trans (hbe.mono hbD.size)
      go_wp2_with fail
      exact ⟨rfl, HF.out, hbE⟩
   ·have hF : Cs.dirF [w0, w1, w2] = Cs.dir3 w0 w2 k := by rw [Cs.dirF, hnum]
    rw [hF]
    have hyes := fun W => number_yes w1 k hnum l1 W
    rw [sv_def] at hyes
    have HYES := Lib.hid hyes
    have c1 := fun w => cat2 (P := Tryz.prog) w0 [32] (by omega) (by decide) w
    have c2 := fun w => run_string_add_lists (P := Tryz.prog) w (w0 ++ [32]) w2 (by simp; omega) (by omega)
    have hd3 : ∀ X, w0 ++ [32] ++ w2 = X → Cs.dir3 w0 w2 k = if X = [110, 111, 114, 116, 104, 32, 101, 97, 115, 116] then some k else if X = [115, 111, 117, 116, 104, 32, 101, 97, 115, 116] then some (Cs.wr (180 - k)) else if X = [115, 111, 117, 116, 104, 32, 119, 101, 115, 116] then some (Cs.wr (180 + k)) else if X = [110, 111, 114, 116, 104, 32, 119, 101, 115, 116] then some (Cs.wr (360 - k)) else none := fun X h => by
     rw [Cs.dir3, h]
     rfl
    have hd3' := hd3 _ rfl
    clear hd3
    obtain ⟨x1, hx1⟩ : ∃ x, (w0 ++ [32] : Cs.Bs) = x := ⟨_, rfl⟩
    rw [hx1] at c1 c2 hd3'
    obtain ⟨X, hX⟩ : ∃ X, x1 ++ w2 = X := ⟨_, rfl⟩
    rw [hX] at c2 hd3'
    have v1 := wrap_wr (180 - k)
    have v2 := wrap_wr (180 + k)
    have v3 := wrap_wr (360 - k)
    obtain ⟨R, hR⟩ : ∃ R, Cs.dir3 w0 w2 k = R := ⟨_, rfl⟩
    rw [hR] at hd3' ⊢
    obtain ⟨p1, hp1⟩ : ∃ x, Cs.wr (180 - k) = x := ⟨_, rfl⟩
    obtain ⟨p2, hp2⟩ : ∃ x, Cs.wr (180 + k) = x := ⟨_, rfl⟩
    obtain ⟨p3, hp3⟩ : ∃ x, Cs.wr (360 - k) = x := ⟨_, rfl⟩
    rw [hp1] at v1 hd3'
    rw [hp2] at v2 hd3'
    rw [hp3] at v3 hd3'
    clear hF hyes hnum hx1 hX hR hp1 hp2 hp3
    by_cases n0 : X = [110, 111, 114, 116, 104, 32, 101, 97, 115, 116]
    ·rw [if_pos n0] at hd3'
     have HF := Lib.hid (Rdn.some_ hd3')
     have m0 : (X == [110, 111, 114, 116, 104, 32, 101, 97, 115, 116]) = true := by rw [n0]; rfl
     clear hd3' n0
     rcases hd : decide (0 ≤ i) with _ | _
     all_goals
      show Calls Tryz.prog 187 #[.slice (some ⟨b, off, none⟩) 3 c] W _
      go_enter Tryz.func187, Tryz.ntmps187
      go_wp2_with fail
      have hbZ : Below W.heap.size W W.drew := (Below.refl _ _).drew
      go_region_held3 (fun V => V.cell? ⟨b, off, none⟩ = some (.string ⟨w0.toArray⟩))
       (first
        | ((try dsimp only); first | (with_reducible exact HSB.out _ hbD) | (with_reducible exact HSB.out _ hbA) | (with_reducible exact HSB.out _ hbZ)))
       (first
        | (go_at_call 215; refine (quarters_bk _).mono ?_; rintro e wA ⟨gA, rfl, hkA, hba⟩; have hbA : Below W.heap.size W wA := hbZ.trans (hba.mono hbZ.size))
        | (go_at_call 185; refine (HIX.out _ _ hkA).mono ?_; rintro e wD ⟨rfl, hbd⟩; have hbD : Below W.heap.size W wD := hbA.trans (hbd.mono hbA.size)))
      all_goals
       have q1 := HS1.out _ hbD
       have lb : b < wD.heap.size := Nat.lt_of_lt_of_le hb hbD.size
       go_wp2_with fail
       refine (HYES.out _).mono ?_
       rintro e wE ⟨rfl, hbe⟩
       have hbE : Below W.heap.size W wE := hbD.trans (hbe.mono hbD.size)
       have e0 := HSB.out _ hbE
       have e2 := HS2.out _ hbE
       have le : b < wE.heap.size := Nat.lt_of_lt_of_le hb hbE.size
       clear q1 lb hbe
       go_wp2_with fail
       go_quiet (fail)
       go_wp2_with fail
       go_ret
       exact ⟨HF.out, ⟨hbE.os, hbE.tape, hbE.output, hbE.size, hbE.block⟩⟩
    ·skip
     by_cases n1 : X = [115, 111, 117, 116, 104, 32, 101, 97, 115, 116]
     ·have m0 : (X == [110, 111, 114, 116, 104, 32, 101, 97, 115, 116]) = false := by simp only [beq_eq_false_iff_ne]; exact n0
      rw [if_neg n0] at hd3'
      rw [if_pos n1] at hd3'
      have HF := Lib.hid (Rdn.some_ hd3')
      have m1 : (X == [115, 111, 117, 116, 104, 32, 101, 97, 115, 116]) = true := by rw [n1]; rfl
      clear hd3' n0 n1
      rcases hd : decide (0 ≤ i) with _ | _
      all_goals
       show Calls Tryz.prog 187 #[.slice (some ⟨b, off, none⟩) 3 c] W _
       go_enter Tryz.func187, Tryz.ntmps187
       go_wp2_with fail
       have hbZ : Below W.heap.size W W.drew := (Below.refl _ _).drew
       go_region_held3 (fun V => V.cell? ⟨b, off, none⟩ = some (.string ⟨w0.toArray⟩))
        (first
         | ((try dsimp only); first | (with_reducible exact HSB.out _ hbD) | (with_reducible exact HSB.out _ hbA) | (with_reducible exact HSB.out _ hbZ)))
        (first
         | (go_at_call 215; refine (quarters_bk _).mono ?_; rintro e wA ⟨gA, rfl, hkA, hba⟩; have hbA : Below W.heap.size W wA := hbZ.trans (hba.mono hbZ.size))
         | (go_at_call 185; refine (HIX.out _ _ hkA).mono ?_; rintro e wD ⟨rfl, hbd⟩; have hbD : Below W.heap.size W wD := hbA.trans (hbd.mono hbA.size)))
       all_goals
        have q1 := HS1.out _ hbD
        have lb : b < wD.heap.size := Nat.lt_of_lt_of_le hb hbD.size
        go_wp2_with fail
        refine (HYES.out _).mono ?_
        rintro e wE ⟨rfl, hbe⟩
        have hbE : Below W.heap.size W wE := hbD.trans (hbe.mono hbD.size)
        have e0 := HSB.out _ hbE
        have e2 := HS2.out _ hbE
        have le : b < wE.heap.size := Nat.lt_of_lt_of_le hb hbE.size
        clear q1 lb hbe
        go_wp2_with fail
        go_quiet (fail)
        go_wp2_with fail
        go_ret
        exact ⟨HF.out, ⟨hbE.os, hbE.tape, hbE.output, hbE.size, hbE.block⟩⟩
     ·skip
      by_cases n2 : X = [115, 111, 117, 116, 104, 32, 119, 101, 115, 116]
      ·have m0 : (X == [110, 111, 114, 116, 104, 32, 101, 97, 115, 116]) = false := by simp only [beq_eq_false_iff_ne]; exact n0
       rw [if_neg n0] at hd3'
       have m1 : (X == [115, 111, 117, 116, 104, 32, 101, 97, 115, 116]) = false := by simp only [beq_eq_false_iff_ne]; exact n1
       rw [if_neg n1] at hd3'
       rw [if_pos n2] at hd3'
       have HF := Lib.hid (Rdn.some_ hd3')
       have m2 : (X == [115, 111, 117, 116, 104, 32, 119, 101, 115, 116]) = true := by rw [n2]; rfl
       clear hd3' n0 n1 n2
       rcases hd : decide (0 ≤ i) with _ | _
       all_goals
        show Calls Tryz.prog 187 #[.slice (some ⟨b, off, none⟩) 3 c] W _
        go_enter Tryz.func187, Tryz.ntmps187
        go_wp2_with fail
        have hbZ : Below W.heap.size W W.drew := (Below.refl _ _).drew
        go_region_held3 (fun V => V.cell? ⟨b, off, none⟩ = some (.string ⟨w0.toArray⟩))
         (first
          | ((try dsimp only); first | (with_reducible exact HSB.out _ hbD) | (with_reducible exact HSB.out _ hbA) | (with_reducible exact HSB.out _ hbZ)))
         (first
          | (go_at_call 215; refine (quarters_bk _).mono ?_; rintro e wA ⟨gA, rfl, hkA, hba⟩; have hbA : Below W.heap.size W wA := hbZ.trans (hba.mono hbZ.size))
          | (go_at_call 185; refine (HIX.out _ _ hkA).mono ?_; rintro e wD ⟨rfl, hbd⟩; have hbD : Below W.heap.size W wD := hbA.trans (hbd.mono hbA.size)))
        all_goals
         have q1 := HS1.out _ hbD
         have lb : b < wD.heap.size := Nat.lt_of_lt_of_le hb hbD.size
         go_wp2_with fail
         refine (HYES.out _).mono ?_
         rintro e wE ⟨rfl, hbe⟩
         have hbE : Below W.heap.size W wE := hbD.trans (hbe.mono hbD.size)
         have e0 := HSB.out _ hbE
         have e2 := HS2.out _ hbE
         have le : b < wE.heap.size := Nat.lt_of_lt_of_le hb hbE.size
         clear q1 lb hbe
         go_wp2_with fail
         go_quiet (fail)
         go_wp2_with fail
         go_ret
         exact ⟨HF.out, ⟨hbE.os, hbE.tape, hbE.output, hbE.size, hbE.block⟩⟩
      ·skip
       by_cases n3 : X = [110, 111, 114, 116, 104, 32, 119, 101, 115, 116]
       ·have m0 : (X == [110, 111, 114, 116, 104, 32, 101, 97, 115, 116]) = false := by simp only [beq_eq_false_iff_ne]; exact n0
        rw [if_neg n0] at hd3'
        have m1 : (X == [115, 111, 117, 116, 104, 32, 101, 97, 115, 116]) = false := by simp only [beq_eq_false_iff_ne]; exact n1
        rw [if_neg n1] at hd3'
        have m2 : (X == [115, 111, 117, 116, 104, 32, 119, 101, 115, 116]) = false := by simp only [beq_eq_false_iff_ne]; exact n2
        rw [if_neg n2] at hd3'
        rw [if_pos n3] at hd3'
        have HF := Lib.hid (Rdn.some_ hd3')
        have m3 : (X == [110, 111, 114, 116, 104, 32, 119, 101, 115, 116]) = true := by rw [n3]; rfl
        clear hd3' n0 n1 n2 n3
        rcases hd : decide (0 ≤ i) with _ | _
        all_goals
         show Calls Tryz.prog 187 #[.slice (some ⟨b, off, none⟩) 3 c] W _
         go_enter Tryz.func187, Tryz.ntmps187
         go_wp2_with fail
         have hbZ : Below W.heap.size W W.drew := (Below.refl _ _).drew
         go_region_held3 (fun V => V.cell? ⟨b, off, none⟩ = some (.string ⟨w0.toArray⟩))
          (first
           | ((try dsimp only); first | (with_reducible exact HSB.out _ hbD) | (with_reducible exact HSB.out _ hbA) | (with_reducible exact HSB.out _ hbZ)))
          (first
           | (go_at_call 215; refine (quarters_bk _).mono ?_; rintro e wA ⟨gA, rfl, hkA, hba⟩; have hbA : Below W.heap.size W wA := hbZ.trans (hba.mono hbZ.size))
           | (go_at_call 185; refine (HIX.out _ _ hkA).mono ?_; rintro e wD ⟨rfl, hbd⟩; have hbD : Below W.heap.size W wD := hbA.trans (hbd.mono hbA.size)))
         all_goals
          have q1 := HS1.out _ hbD
          have lb : b < wD.heap.size := Nat.lt_of_lt_of_le hb hbD.size
          go_wp2_with fail
          refine (HYES.out _).mono ?_
          rintro e wE ⟨rfl, hbe⟩
          have hbE : Below W.heap.size W wE := hbD.trans (hbe.mono hbD.size)
          have e0 := HSB.out _ hbE
          have e2 := HS2.out _ hbE
          have le : b < wE.heap.size := Nat.lt_of_lt_of_le hb hbE.size
          clear q1 lb hbe
          go_wp2_with fail
          go_quiet (fail)
          go_wp2_with fail
          go_ret
          exact ⟨HF.out, ⟨hbE.os, hbE.tape, hbE.output, hbE.size, hbE.block⟩⟩
       ·have m0 : (X == [110, 111, 114, 116, 104, 32, 101, 97, 115, 116]) = false := by simp only [beq_eq_false_iff_ne]; exact n0
        rw [if_neg n0] at hd3'
        have m1 : (X == [115, 111, 117, 116, 104, 32, 101, 97, 115, 116]) = false := by simp only [beq_eq_false_iff_ne]; exact n1
        rw [if_neg n1] at hd3'
        have m2 : (X == [115, 111, 117, 116, 104, 32, 119, 101, 115, 116]) = false := by simp only [beq_eq_false_iff_ne]; exact n2
        rw [if_neg n2] at hd3'
        have m3 : (X == [110, 111, 114, 116, 104, 32, 119, 101, 115, 116]) = false := by simp only [beq_eq_false_iff_ne]; exact n3
        rw [if_neg n3] at hd3'
        have HF := Lib.hid (Rdn.none_ hd3')
        clear hd3' n0 n1 n2 n3
        rcases hd : decide (0 ≤ i) with _ | _
        all_goals
         show Calls Tryz.prog 187 #[.slice (some ⟨b, off, none⟩) 3 c] W _
         go_enter Tryz.func187, Tryz.ntmps187
         go_wp2_with fail
         have hbZ : Below W.heap.size W W.drew := (Below.refl _ _).drew
         go_region_held3 (fun V => V.cell? ⟨b, off, none⟩ = some (.string ⟨w0.toArray⟩))
          (first
           | ((try dsimp only); first | (with_reducible exact HSB.out _ hbD) | (with_reducible exact HSB.out _ hbA) | (with_reducible exact HSB.out _ hbZ)))
          (first
           | (go_at_call 215; refine (quarters_bk _).mono ?_; rintro e wA ⟨gA, rfl, hkA, hba⟩; have hbA : Below W.heap.size W wA := hbZ.trans (hba.mono hbZ.size))
           | (go_at_call 185; refine (HIX.out _ _ hkA).mono ?_; rintro e wD ⟨rfl, hbd⟩; have hbD : Below W.heap.size W wD := hbA.trans (hbd.mono hbA.size)))
         all_goals
          have q1 := HS1.out _ hbD
          have lb : b < wD.heap.size := Nat.lt_of_lt_of_le hb hbD.size
          go_wp2_with fail
          refine (HYES.out _).mono ?_
          rintro e wE ⟨rfl, hbe⟩
          have hbE : Below W.heap.size W wE := hbD.trans (hbe.mono hbD.size)
          have e0 := HSB.out _ hbE
          have e2 := HS2.out _ hbE
          have le : b < wE.heap.size := Nat.lt_of_lt_of_le hb hbE.size
          clear q1 lb hbe
          go_wp2_with fail
          go_quiet (fail)
          go_wp2_with fail
          exact ⟨rfl, HF.out, ⟨hbE.os, hbE.tape, hbE.output, hbE.size, hbE.block⟩⟩
  ·have hF : Cs.dirF (w0 :: r) = none := by
    match r, hnl with
    | [], hnl => exact absurd hnl.symm h1
    | [x], hnl => rfl
    | [x, y], hnl => exact absurd hnl.symm h3
    | x :: y :: z :: q, hnl => rfl
   have HF := Lib.hid (Rdn.none_ hF)
   have m1 : ((n : Int) == 1) = false := beq_eq_false_iff_ne.2 (by omega)
   have m3 : ((n : Int) != 3) = true := by simp; omega
   rw [hnl]
   clear hF hi hnl HW HL h1 h3
   rcases hd : decide (0 ≤ i) with _ | _
   ·go_enter Tryz.func187, Tryz.ntmps187
    go_wp2_with fail
    have hbZ : Below W.heap.size W W.drew := (Below.refl _ _).drew
    go_region_held3 (fun V => V.cell? ⟨b, off, none⟩ = some (.string ⟨w0.toArray⟩))
     (first
      | ((try dsimp only); first | (with_reducible exact HSB.out _ hbD) | (with_reducible exact HSB.out _ hbA) | (with_reducible exact HSB.out _ hbZ)))
     (first
      | (go_at_call 215; refine (quarters_bk _).mono ?_; rintro e wA ⟨gA, rfl, hkA, hba⟩; have hbA : Below W.heap.size W wA := hbZ.trans (hba.mono hbZ.size))
      | (go_at_call 185; refine (HIX.out _ _ hkA).mono ?_; rintro e wD ⟨rfl, hbd⟩; have hbD : Below W.heap.size W wD := hbA.trans (hbd.mono hbA.size)))
    all_goals
     go_wp2_with fail
     exact ⟨rfl, HF.out, hbD⟩
   ·go_enter Tryz.func187, Tryz.ntmps187
    go_wp2_with fail
    have hbZ : Below W.heap.size W W.drew := (Below.refl _ _).drew
    go_region_held3 (fun V => V.cell? ⟨b, off, none⟩ = some (.string ⟨w0.toArray⟩))
     (first
      | ((try dsimp only); first | (with_reducible exact HSB.out _ hbD) | (with_reducible exact HSB.out _ hbA) | (with_reducible exact HSB.out _ hbZ)))
     (first
      | (go_at_call 215; refine (quarters_bk _).mono ?_; rintro e wA ⟨gA, rfl, hkA, hba⟩; have hbA : Below W.heap.size W wA := hbZ.trans (hba.mono hbZ.size))
      | (go_at_call 185; refine (HIX.out _ _ hkA).mono ?_; rintro e wD ⟨rfl, hbd⟩; have hbD : Below W.heap.size W wD := hbA.trans (hbd.mono hbA.size)))
    all_goals
     go_wp2_with fail
     exact ⟨rfl, HF.out, hbD⟩
set_option maxHeartbeats 2000000 in
theorem Bearing_any (s : Cs.Bs) (hs : s.length ≤ 1000000) (w : World) (hE : Env w) :
  Calls Tryz.prog 170 #[sv s] w fun e w' => e = .returned (.tuple #[.int .i64 (Cs.berF s).1, .int .i64 (Cs.berF s).2]) ∧ Below w.heap.size w w' := by
 have hrd := read_any 187 188 #[] Cs.dirF Cs.quadF s hs w hE
  (fun A c ws W hb hEW hR hc hn hl h0 => direction_any A c ws W hEW hR hc hn hl h0)
  (fun n W h => Quadrant_any n W h) (enters_of Tryz.func187 (by kernel_rfl) rfl) (enters_of Tryz.func188 (by kernel_rfl) rfl)
 have e1 : Cs.readF Cs.dirF Cs.quadF s = Cs.berF s := rfl
 rw [e1] at hrd
 obtain ⟨⟨n, er⟩, hr⟩ : ∃ q, Cs.berF s = q := ⟨_, rfl⟩
 rw [hr] at hrd ⊢
 rw [sv_def] at hrd ⊢
 have HRD := Lib.hid hrd
 clear hrd e1 hr hE
 go_enter Tryz.func170, Tryz.ntmps170
 go_wp2_with fail
 refine HRD.out.mono ?_
 rintro e w1 ⟨rfl, hb1⟩
 go_wp2_with fail
 go_ret2
 exact ⟨rfl, hb1⟩
end Go.Proofs.YtcbeefbefapicaaGreatDoor

namespace Go.Proofs.YtcbeefbefapicaaGreatDoor
open Go.ChangeShapes Go.RowKit
section
variable {H : Type} {enc : TypeId × Value → H} {P : Program} {w : World} {base : Nat} {spare : Nat → Bool} {held : Bool}
theorem trodAll_six {t0 t1 t2 t3 t4 t5 : TypeId} {args : Array Value} {ds : List (DataW H)} {ps : List MemPlace} (h : DataW.TrodAll enc P w base spare held [t0, t1, t2, t3, t4, t5] args.toList ds ps) :
  ∃ v0 v1 v2 v3 v4 v5 d0 d1 d2 d3 d4 d5 p0 p1 p2 p3 p4 p5, args = #[v0, v1, v2, v3, v4, v5] ∧ ds = [d0, d1, d2, d3, d4, d5] ∧ ps = p0 ++ p1 ++ p2 ++ p3 ++ p4 ++ p5 ∧
   DataW.Trod enc P w base spare held t0 v0 d0 p0 ∧ DataW.Trod enc P w base spare held t1 v1 d1 p1 ∧ DataW.Trod enc P w base spare held t2 v2 d2 p2 ∧ DataW.Trod enc P w base spare held t3 v3 d3 p3 ∧ DataW.Trod enc P w base spare held t4 v4 d4 p4 ∧ DataW.Trod enc P w base spare held t5 v5 d5 p5 := by
 obtain ⟨v0, vs0, d0, ds0, p0, q0, hargs, rfl, rfl, h0, k0⟩ := trodAll_cons h
 obtain ⟨v1, vs1, d1, ds1, p1, q1, rfl, rfl, rfl, h1, k1⟩ := trodAll_cons k0
 obtain ⟨v2, vs2, d2, ds2, p2, q2, rfl, rfl, rfl, h2, k2⟩ := trodAll_cons k1
 obtain ⟨v3, vs3, d3, ds3, p3, q3, rfl, rfl, rfl, h3, k3⟩ := trodAll_cons k2
 obtain ⟨v4, vs4, d4, ds4, p4, q4, rfl, rfl, rfl, h4, k4⟩ := trodAll_cons k3
 obtain ⟨v5, vs5, d5, ds5, p5, q5, rfl, rfl, rfl, h5, k5⟩ := trodAll_cons k4
 obtain ⟨rfl, rfl, rfl⟩ := trodAll_nil k5
 exact ⟨v0, v1, v2, v3, v4, v5, d0, d1, d2, d3, d4, d5, p0, p1, p2, p3, p4, p5, by cases args; simp_all, rfl, by simp, h0, h1, h2, h3, h4, h5⟩
theorem trodAll_mk5 {t0 t1 t2 t3 t4 : TypeId} {v0 v1 v2 v3 v4 : Value} {d0 d1 d2 d3 d4 : DataW H} {p0 p1 p2 p3 p4 : List MemPlace} (h0 : DataW.Trod enc P w base spare held t0 v0 d0 p0) (h1 : DataW.Trod enc P w base spare held t1 v1 d1 p1)
  (h2 : DataW.Trod enc P w base spare held t2 v2 d2 p2) (h3 : DataW.Trod enc P w base spare held t3 v3 d3 p3) (h4 : DataW.Trod enc P w base spare held t4 v4 d4 p4) :
  DataW.TrodAll enc P w base spare held [t0, t1, t2, t3, t4] [v0, v1, v2, v3, v4] [d0, d1, d2, d3, d4] (p0 ++ (p1 ++ (p2 ++ (p3 ++ p4)))) := ⟨p0, p1 ++ (p2 ++ (p3 ++ p4)), h0, trodAll_mk4 h1 h2 h3 h4, rfl⟩
theorem trodAll_mk6 {t0 t1 t2 t3 t4 t5 : TypeId} {v0 v1 v2 v3 v4 v5 : Value} {d0 d1 d2 d3 d4 d5 : DataW H} {p0 p1 p2 p3 p4 p5 : List MemPlace} (h0 : DataW.Trod enc P w base spare held t0 v0 d0 p0) (h1 : DataW.Trod enc P w base spare held t1 v1 d1 p1)
  (h2 : DataW.Trod enc P w base spare held t2 v2 d2 p2) (h3 : DataW.Trod enc P w base spare held t3 v3 d3 p3) (h4 : DataW.Trod enc P w base spare held t4 v4 d4 p4) (h5 : DataW.Trod enc P w base spare held t5 v5 d5 p5) :
  DataW.TrodAll enc P w base spare held [t0, t1, t2, t3, t4, t5] [v0, v1, v2, v3, v4, v5] [d0, d1, d2, d3, d4, d5] (p0 ++ (p1 ++ (p2 ++ (p3 ++ (p4 ++ p5))))) := ⟨p0, p1 ++ (p2 ++ (p3 ++ (p4 ++ p5))), h0, trodAll_mk5 h1 h2 h3 h4 h5, rfl⟩
end
end Go.Proofs.YtcbeefbefapicaaGreatDoor
