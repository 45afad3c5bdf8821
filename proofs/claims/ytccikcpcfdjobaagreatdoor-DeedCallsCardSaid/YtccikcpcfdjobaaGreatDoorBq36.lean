/-
  What the claims of layer deed need of the texts DRln, DFo, DDl, DRl, DFm, DRfl, DRfs.
-/
import Derived.Deep.AppendLies
import Derived.Deep.RegionLaw
import Derived.Test.YtccikcpcfdjobaaGreatDoorBq31
import Derived.Test.YtccikcpcfdjobaaGreatDoorBq16
import Derived.Test.YtccikcpcfdjobaaGreatDoorBq34
import Derived.Test.YtccikcpcfdjobaaGreatDoorBz
set_option linter.unusedVariables false
set_option linter.unusedSimpArgs false
set_option maxHeartbeats 8000000
set_option maxRecDepth 100000
namespace Go.Proofs.YtccikcpcfdjobaaGreatDoor
section
open Go.RowKit
structure Step {σ : Type} (kf : Nat) (first capS : Array Value) (Inv : Nat → σ → (Nat → Prop) → World → Prop) (step : σ → List Cs.Bs → Int × σ) (B0 : Nat) : Prop where
 ent : ∀ args w, (callFunc kf args).run Tryz.prog w = .ok (.enter kf args) w
 keep : ∀ m s R V V' X, Inv m s R V → But X V V' → (∀ k, X k → ¬ R k ∧ B0 ≤ k) → Inv m s R V'
 low : ∀ m s R V, Inv m s R V → ∀ k, R k → 9 ≤ k ∧ k < V.heap.size
 step : ∀ m s R V b ws, m ≤ 1000000 → Inv m s R V → Wz V b ws → ws ≠ [] → ¬ R b → B0 ≤ b → Env V → Calls Tryz.prog kf (first ++ #[.pointer (some ⟨b, 0, none⟩)] ++ capS) V fun e V' =>
  But (fun k => k = b ∨ R k) V V' ∧ (((step s ws).1 = 0 ∧ e = .returned (.tuple #[]) ∧ ∃ R', Inv (m + 1) (step s ws).2 R' V' ∧ ∀ k, R' k → R k ∨ V.heap.size ≤ k) ∨ ((step s ws).1 ≠ 0 ∧ e = .panicked [pan (step s ws).1]))
theorem readLines1_any {Q : Ending → World → Prop} (kf : Nat) (first capS : Array Value) (ent : ∀ args w, (callFunc kf args).run Tryz.prog w = .ok (.enter kf args) w) (g gt b : Nat) (V : World) (kg : Bk V g 125 #[.func (.func kf) first capS]) (kt : Bk V gt 121 #[.pointer (some ⟨b, 0, none⟩)])
  (h : Calls Tryz.prog kf (first ++ #[.pointer (some ⟨b, 0, none⟩)] ++ capS) V fun e V' => (e = .returned (.tuple #[]) ∨ ∃ n, e = .panicked [pan n]) ∧ Q e V') :
  Calls Tryz.prog 149 #[.pointer (some ⟨g, 0, none⟩), .pointer (some ⟨gt, 0, none⟩)] V Q := by
 have c0 := (kg.cell 0).trans rfl
 have c1 := (kt.cell 0).trans rfl
 have H := jQ h
 clear h kg kt
 go_enter Tryz.func149, Tryz.ntmps149
 go_wp2_with fail
 refine H.o.mono ?_
 rintro e V' ⟨(rfl | ⟨n, rfl⟩), hq⟩
 ·have HQ := jQ hq
  clear hq
  go_wp2_with fail
  go_end0
  exact HQ.o
 ·have HQ := jQ hq
  clear hq
  go_wp2_with fail
  exact ⟨rfl, HQ.o⟩
theorem But.new_set' {X : Nat → Prop} {w w' : World} (h : But X w w') {p : Addr} (hp : w.heap.size ≤ p.block) (u : Value) : But X w (w'.setCell p u) :=
 ⟨h.os, h.tape, h.output, by have := h.size; simpa [World.setCell] using this, fun k hk hx => (Below.heap_setCell _ _ _ _ (by omega)).trans (h.block k hk hx)⟩
theorem But.new_row {X : Nat → Prop} {w w' : World} (h : But X w w') {g : Nat} (hg : w.heap.size ≤ g) (cs : Array Value) : But X w (w'.setRow g cs) :=
 ⟨h.os, h.tape, h.output, by rw [size_setRow]; exact h.size, fun k hk hx => by
  simp only [World.setRow, Array.getElem?_modify]
  rw [if_neg (by omega)]
  exact h.block k hk hx⟩
def Dd.sourceG {σ : Type} (step : σ → List Cs.Bs → Int × σ) (s : σ) (src : Cs.Bs) : (Int × Int) × σ := if 20000 < src.length then ((2, 0), s) else Dd.linesG step s (Dd.linesF src) 1
structure Lp {σ : Type} (kf : Nat) (first capS : Array Value) (Inv : Nat → σ → (Nat → Prop) → World → Prop) (R0 : Nat → Prop) (w w1 : World) (lines : List Cs.Bs) (m : Nat) (s : σ) (R : Nat → Prop) (W : World) : Prop where
 but : But R0 w W
 inv : Inv m s R W
 hR : ∀ x, R x → R0 x ∨ w1.heap.size ≤ x
 kF : Bk W w.heap.size 125 #[.func (.func kf) first capS]
 kR : Bk W (w.heap.size + 1) 70 #[.int .i64 0, .int .i64 0]
 ln : Rd W w1.heap.size 1 (some ⟨w.heap.size + 1 + 1, 0, none⟩) lines.length (wcells lines)
 env : Env W
 sz : w1.heap.size ≤ W.heap.size
section
variable {σ : Type} {kf : Nat} {first capS : Array Value} {Inv : Nat → σ → (Nat → Prop) → World → Prop} {R0 : Nat → Prop} {w w1 : World} {lines : List Cs.Bs} {m m' : Nat} {s s' : σ} {R R' : Nat → Prop} {W W' : World} {step : σ → List Cs.Bs → Int × σ}
theorem Lp.next (h : Lp kf first capS Inv R0 w w1 lines m s R W) (S : Step kf first capS Inv step w.heap.size) (hb : Below W.heap.size W W') : Lp kf first capS Inv R0 w w1 lines m s R W' :=
 ⟨h.but.trans (But.of hb), S.keep _ _ _ _ _ (fun _ => False) h.inv (But.of hb) (fun k hk => hk.elim), h.hR, h.kF.below hb h.kF.lt, h.kR.below hb h.kR.lt, h.ln.below hb h.sz, h.env.step hb, Nat.le_trans h.sz hb.size⟩
theorem Lp.change {X : Nat → Prop} (h : Lp kf first capS Inv R0 w w1 lines m s R W) (hz : w1.heap.size = w.heap.size + 1 + 1 + 1) (hr0 : ∀ k, R0 k → 9 ≤ k ∧ k < w.heap.size) (h9 : 9 ≤ w.heap.size)
  (hb : But X W W') (hX : ∀ k, X k → R0 k ∨ w1.heap.size ≤ k) (hi : Inv m' s' R' W') (hR' : ∀ x, R' x → R0 x ∨ w1.heap.size ≤ x) : Lp kf first capS Inv R0 w w1 lines m' s' R' W' := by
 have hg : ∀ g, w.heap.size ≤ g → g < w1.heap.size → ¬ X g := fun g h1 h2 hx => by
  rcases hX g hx with h | h
  ·have := hr0 g h; omega
  ·omega
 have hsz := h.but.size
 refine ⟨?_, hi, hR', hb.bk h.kF (hg _ (Nat.le_refl _) (by omega)), hb.bk h.kR (hg _ (by omega) (by omega)), h.ln.keep' hb (fun _ => hg _ (by omega) (by omega)), h.env.but hb (fun k hk => by rcases hX k hk with h | h; exact (hr0 k h).1; omega), Nat.le_trans h.sz hb.size⟩
 exact ⟨hb.os.trans h.but.os, hb.tape.trans h.but.tape, hb.output.trans h.but.output, Nat.le_trans hsz hb.size, fun k hk hx => (hb.block k (Nat.lt_of_lt_of_le hk hsz) (fun hx2 => by
  rcases hX k hx2 with h | h
  ·exact hx h
  ·omega)).trans (h.but.block k hk hx)⟩
theorem Lp.row (h : Lp kf first capS Inv R0 w w1 lines m s R W) (hz : w1.heap.size = w.heap.size + 1 + 1 + 1) (hr0 : ∀ k, R0 k → 9 ≤ k ∧ k < w.heap.size) (cs : Array Value) : But R0 w (W.setRow (w.heap.size + 1) cs) ∧ But (fun x => x = w.heap.size + 1) W (W.setRow (w.heap.size + 1) cs) ∧ ∀ k, k = w.heap.size + 1 → ¬ R k ∧ w.heap.size ≤ k := by
 have h2 := But.row (X := fun x => x = w.heap.size + 1) (But.refl _ W) rfl cs
 refine ⟨⟨h2.os.trans h.but.os, h2.tape.trans h.but.tape, h2.output.trans h.but.output, Nat.le_trans h.but.size h2.size, fun k hk hx => (h2.block k (Nat.lt_of_lt_of_le hk h.but.size) (by omega)).trans (h.but.block k hk hx)⟩, h2, fun k hk => ⟨fun hr => ?_, by omega⟩⟩
 rcases h.hR k hr with h3 | h3
 ·have := hr0 k h3; omega
 ·omega
end
set_option maxHeartbeats 16000000 in
theorem readLines_any {σ : Type} (kf : Nat) (first capS : Array Value) (Inv : Nat → σ → (Nat → Prop) → World → Prop) (step : σ → List Cs.Bs → Int × σ) (s0 : σ) (R0 : Nat → Prop) (w : World) (S : Step kf first capS Inv step w.heap.size) (hI : Inv 0 s0 R0 w) (hE : Env w) (src : Cs.Bs) (hs : src.length ≤ 999999) :
  Calls Tryz.prog 95 #[.string ⟨src.toArray⟩, .func (.func kf) first capS] w fun e w' =>
   e = .returned (.agg #[.int .i64 (Dd.sourceG step s0 src).1.1, .int .i64 (Dd.sourceG step s0 src).1.2]) ∧ But R0 w w' ∧ ((Dd.sourceG step s0 src).1 = (0, 0) → ∃ R' m, m ≤ 1000000 ∧ Inv m (Dd.sourceG step s0 src).2 R' w' ∧ ∀ k, R' k → R0 k ∨ w.heap.size ≤ k) := by
 have hmf : ∀ (fn : Fn) (first cap : Array Value) (w : World), (Instr.makeFunc fn first cap).run Tryz.prog w = .ok (.func fn first cap) w := fun _ _ _ _ => rfl
 have hr0 := S.low _ _ _ _ hI
 have h9 := hE.gl
 have hb0 := ((Below.refl w.heap.size w).alloc (Nat.le_refl _) (.cells #[.func (.func kf) first capS] 125)).alloc (by simp) (.cells #[.int .i64 0, .int .i64 0] 70)
 have k0 := (Bk.new w 125 #[.func (.func kf) first capS]).alloc (.cells #[.int .i64 0, .int .i64 0] 70)
 have k1 := Bk.new (w.alloc (.cells #[.func (.func kf) first capS] 125)) 70 #[.int .i64 0, .int .i64 0]
 rw [World.size_alloc] at k1
 have HB0 := jQ hb0
 have K0 := jQ k0
 have K1 := jQ k1
 have HE0 := jQ (hE.step hb0)
 have HS := jQ S
 have HI := jQ hI
 have HR0 := jQ hr0
 by_cases hbig : 20000 < src.length
 ·have HG := jQ (show Dd.sourceG step s0 src = ((2, 0), s0) by unfold Dd.sourceG; rw [if_pos hbig])
  rw [HG.o]
  have g1 : decide ((src.length : Int) > 20000) = true := decide_eq_true (by omega)
  have n0 := (k1.cell 0).trans rfl
  have n1 := (k1.cell 1).trans rfl
  have m0 := k1.frozen 0
  have m1 := k1.frozen 1
  have l1 := k1.lt
  clear S hI hE hr0 hb0 k0 k1 hbig
  go_enter Tryz.func95, Tryz.ntmps95
  go_wp2_with fail
  have kk := Bk.new (w.alloc (.cells #[.func (.func kf) first capS] 125)) 70 #[.int .i64 2, .int .i64 0]
  rw [World.size_alloc] at kk
  have hb2 := ((Below.refl w.heap.size w).alloc (Nat.le_refl _) (.cells #[.func (.func kf) first capS] 125)).alloc (by simp) (.cells #[.int .i64 2, .int .i64 0] 70)
  exact bodyPost_ret (results_cell_row1 rfl _ _ (w.heap.size + 1) 70 _ (0, 0) _ rfl kk Tryz.underlying70 rfl (by kernel_rfl)) rfl ⟨rfl, But.of hb2, fun h => by cases h⟩
 ·have hG : Dd.sourceG step s0 src = Dd.linesG step s0 (Dd.linesF src) 1 := by unfold Dd.sourceG; rw [if_neg hbig]
  rw [hG]
  have g1 : decide ((src.length : Int) > 20000) = false := decide_eq_false (by omega)
  obtain ⟨m, hm⟩ := HE0.o.mx
  have hsp := Tryz.strings_Split ⟨src.toArray⟩ ⟨#[10]⟩ m _ (by simp [ByteArray.size]; omega) hm (by decide)
  have hln := Dd.lines_split src
  have hlen := Dd.lines_len src
  have hcnt : Lib.countB ⟨src.toArray⟩ ⟨#[10]⟩ = src.count 10 := by
   have : Lib.countB ⟨src.toArray⟩ ⟨#[10]⟩ = Lib.count src [10] := rfl
   rw [this, Lib.count, Dd.countFrom_one 10 _ _ (by omega)]
  rw [hcnt] at hsp hln
  obtain ⟨L, hL⟩ : ∃ L, Lib.splitB ⟨#[10]⟩ 0 (src.count 10) ⟨src.toArray⟩ = L := ⟨_, rfl⟩
  rw [hL] at hsp hln
  have hcells : L.map Value.string = wcells (Dd.linesF src) := by rw [← hln]; simp [wcells, sv]
  rw [hcells, ← hlen] at hsp
  have hsh := Dd.lines_short src
  have hc2 : src.count 10 ≤ src.length := List.count_le_length
  obtain ⟨lines, hlines⟩ : ∃ l, Dd.linesF src = l := ⟨_, rfl⟩
  rw [hlines] at hsp hlen hsh ⊢
  have hn : lines.length ≤ 1000000 := by omega
  have hshort : ∀ x ∈ lines, x.length ≤ 999999 := fun x hx => by have := hsh x hx; omega
  have HSP := jQ hsp
  have HSH := jQ hshort
  clear S hI hE hr0 hb0 k0 k1 hbig hG hm hsp hln hlen hcnt hL hcells hsh hc2 hlines hshort L m
  go_enter Tryz.func95, Tryz.ntmps95
  go_wp2_with fail
  refine HSP.o.mono ?_
  rintro e W1 ⟨rfl, hW1⟩
  have hz1 : W1.heap.size = w.heap.size + 1 + 1 + 1 := by rw [hW1]; simp
  have hb1 : Below w.heap.size w W1 := by rw [hW1]; exact HB0.o.alloc HB0.o.size _
  have hbk : Bk W1 (w.heap.size + 1 + 1) 9 (wcells lines).toArray := by
   rw [hW1]
   have := Bk.new ((w.alloc (.cells #[.func (.func kf) first capS] 125)).alloc (.cells #[.int .i64 0, .int .i64 0] 70)) 9 (wcells lines).toArray
   rwa [World.size_alloc, World.size_alloc] at this
  have hbW : Below ((w.alloc (.cells #[.func (.func kf) first capS] 125)).alloc (.cells #[.int .i64 0, .int .i64 0] 70)).heap.size ((w.alloc (.cells #[.func (.func kf) first capS] 125)).alloc (.cells #[.int .i64 0, .int .i64 0] 70)) W1 := by rw [hW1]; exact (Below.refl _ _).alloc (Nat.le_refl _) _
  have hL0 : Lp kf first capS Inv R0 w W1 lines 0 s0 R0 W1 := by
   refine ⟨But.of hb1, HS.o.keep _ _ _ _ _ (fun _ => False) HI.o (But.of hb1) (fun k hk => hk.elim), fun x hx => .inl hx, K0.o.below hbW K0.o.lt, K1.o.below hbW K1.o.lt, ?_, HE0.o.step hbW, Nat.le_refl _⟩
   refine ⟨by simp [wcells], fun _ => ⟨_, 0, rfl, hbk.lt, fun j hj => ?_⟩⟩
   rw [Nat.zero_add, hbk.cell j, List.getElem?_toArray]
  have HL0 := jQ hL0
  have HZ1 := jQ hz1
  simp only [World.size_alloc]
  clear hW1 hz1 hb1 hbk hbW hL0 K0 K1 HB0 HE0 HSP HI
  go_wp2_with fail
  go_loopw [16] (fun I wr => ∃ (k m : Nat) (s : σ) (R : Nat → Prop), k ≤ lines.length ∧ m ≤ k ∧ I = .int .i64 k ∧ Dd.linesG step s (lines.drop k) ((k : Int) + 1) = Dd.linesG step s0 lines 1 ∧ Lp kf first capS Inv R0 w W1 lines m s R wr) (fun I _ => lines.length - (intOf I).toNat)
  case atStart => exact ⟨0, 0, s0, R0, Nat.zero_le _, Nat.zero_le _, rfl, rfl, HL0.o⟩
  case round =>
   obtain ⟨k, m, s, R, hk, hmk, rfl, hrun, hL⟩ := hrel
   have HRUN := jQ hrun
   have HL := jQ hL
   clear hrun
   by_cases hlt : k < lines.length
   ·obtain ⟨x, hx⟩ : ∃ x, lines[k] = x := ⟨_, rfl⟩
    have hxs := HSH.o x (by rw [← hx]; exact List.getElem_mem hlt)
    have hdrop : lines.drop k = x :: lines.drop (k + 1) := by rw [← hx, List.drop_eq_getElem_cons hlt]
    have HDR := jQ (show Dd.linesG step s (x :: lines.drop (k + 1)) ((k : Int) + 1) = Dd.linesG step s0 lines 1 by rw [← hdrop]; exact HRUN.o)
    obtain ⟨b', off', e1, _, hc⟩ := hL.ln.text hlt
    obtain ⟨rfl, rfl⟩ : w.heap.size + 1 + 1 = b' ∧ 0 = off' := by simpa using e1
    rw [hx, Nat.zero_add] at hc
    have hwr : IntKind.i64.wrap ((k : Int) + 1) = ((k + 1 : Nat) : Int) := IntWalk.i64_in _ (by omega)
    clear hL e1 hdrop hx
    go_wp2_with fail
    refine (wordsOf_any x hxs _ HL.o.env).mono ?_
    rintro e w2 ⟨b, hb0, rfl, hz, hb⟩
    have hl2 := HL.o.next HS.o hb
    have hb3 := (Below.refl w2.heap.size w2).alloc (Nat.le_refl _) (.cells #[.pointer (some ⟨b, 0, none⟩)] 121)
    have hl3 := hl2.next HS.o hb3
    have kt := Bk.new w2 121 #[.pointer (some ⟨b, 0, none⟩)]
    have hz3 := hz.below hb3
    obtain ⟨w3, hw3⟩ : ∃ w3, w2.alloc (.cells #[.pointer (some ⟨b, 0, none⟩)] 121) = w3 := ⟨_, rfl⟩
    obtain ⟨gt, hgt⟩ : ∃ gt, w2.heap.size = gt := ⟨_, rfl⟩
    rw [hw3] at hb3 hl3 kt hz3
    rw [hgt] at kt
    have hbw : wr.heap.size ≤ b := hb0
    have hbg : b < gt := by rw [← hgt]; exact hz.lt
    have hsz1 := HL.o.sz
    have HW3 := jQ hw3
    have HL3 := jQ hl3
    have HZ3 := jQ hz3
    have KT := jQ kt
    clear hz hb hl2 hb3 hl3 hw3 kt hz3 hb0
    obtain ⟨ws, hws⟩ : ∃ ws, Dd.fieldsF x = ws := ⟨_, rfl⟩
    rw [hws] at HZ3
    obtain ⟨Aw, cw, kb, rb, hcw⟩ := HZ3.o.ex
    have y0 := (kb.cell 0).trans rfl
    have t0 := (KT.o.cell 0).trans rfl
    rw [← HW3.o] at y0 t0
    have HDR2 := jQ (show (if ws = [] then Dd.linesG step s (lines.drop (k + 1)) ((k : Int) + 1 + 1) else if (step s ws).1 = 0 then Dd.linesG step (step s ws).2 (lines.drop (k + 1)) ((k : Int) + 1 + 1) else (((step s ws).1, (k : Int) + 1), s)) = Dd.linesG step s0 lines 1 by
     have h := HDR.o
     rw [Dd.linesG, hws] at h
     exact h)
    have lt0 := KT.o.lt
    have ly0 := kb.lt
    clear kb rb hcw hws hc
    by_cases hwe : ws = []
    ·have HD3 := jQ ((if_pos hwe).symm.trans HDR2.o)
     have g5 : ws.length = 0 := by rw [hwe]; rfl
     clear hwe
     go_wp2_with fail
     go_roundw
     case rel => exact ⟨k + 1, m, s, R, by omega, by omega, by go_num, HD3.o, HW3.o ▸ HL3.o⟩
     case measure => simp [intOf]; omega
    ·have HD3 := jQ ((if_neg hwe).symm.trans HDR2.o)
     have g5 : ((ws.length : Int) == 0) = false := by
      have : ws.length ≠ 0 := fun h => hwe (List.length_eq_zero_iff.1 h)
      simp [this]
     have HWE := jQ hwe
     clear hwe
     go_wp2_with fail
     rw [HW3.o]
     have hlow := HS.o.low _ _ _ _ HL.o.inv
     have hbR : ¬ R b := fun h => by have := hlow b h; omega
     have hgw : wr.heap.size ≤ gt := by omega
     have hbe := (Below.refl w3.heap.size w3).alloc (Nat.le_refl _) (.cells #[.int .i64 0] 31)
     have hl4 := HL3.o.next HS.o hbe
     have hz4 := HZ3.o.below hbe
     have kt4 := KT.o.below hbe KT.o.lt
     have ke := Bk.new w3 31 #[.int .i64 0]
     have hsz4 : (w3.alloc (.cells #[.int .i64 0] 31)).heap.size = w3.heap.size + 1 := by simp
     have hgt3 : gt < w3.heap.size := KT.o.lt
     have hszw : w.heap.size ≤ b := by have := HZ1.o; omega
     have hst := HS.o.step m s R _ b ws (by omega) hl4.inv hz4 HWE.o hbR hszw hl4.env
     obtain ⟨ge, hge⟩ : ∃ ge, w3.heap.size = ge := ⟨_, rfl⟩
     have hRe : ¬ R ge := fun h => by have := hlow ge h; omega
     have hbe2 : ¬ ge = b := by omega
     have hNB : ¬ (w3.heap.size = b ∨ R w3.heap.size) := by
      rw [hge]
      exact fun hx => hx.elim hbe2 hRe
     refine (tried_any 149 #[] #[.pointer (some ⟨w.heap.size, 0, none⟩), .pointer (some ⟨gt, 0, none⟩)]
      (fun V => (step s ws).1 = 0 ∧ ∃ R', Inv (m + 1) (step s ws).2 R' V ∧ (∀ k, R' k → R k ∨ (w3.alloc (.cells #[.int .i64 0] 31)).heap.size ≤ k) ∧ But (fun k => k = b ∨ R k) (w3.alloc (.cells #[.int .i64 0] 31)) V)
      (fun n V => (step s ws).1 ≠ 0 ∧ n = (step s ws).1 ∧ But (fun k => k = b ∨ R k) (w3.alloc (.cells #[.int .i64 0] 31)) V) w3 (fun W1' e1 => ?clo)
      (fun V hV => by obtain ⟨_, _, _, _, hV⟩ := hV; exact hV.bk ke hNB)
      (fun n V hV => hV.2.2.bk ke hNB) (enters_of Tryz.func149 (by kernel_rfl) rfl)).mono ?_
     case clo =>
      subst e1
      refine readLines1_any kf first capS HS.o.ent w.heap.size gt b _ hl4.kF kt4 (hst.mono ?_)
      rintro e V ⟨hbut, (⟨h1, rfl, R', hi, hr⟩ | ⟨h1, rfl⟩)⟩
      ·exact ⟨.inl rfl, .inl ⟨rfl, h1, R', hi, hr, hbut⟩⟩
      ·exact ⟨.inr ⟨_, rfl⟩, .inr ⟨_, rfl, h1, rfl, hbut⟩⟩
     rw [hge]
     have HX := jQ (show ∀ x, (x = b ∨ R x) → R0 x ∨ W1.heap.size ≤ x from fun x hx => by
      rcases hx with h | h
      ·exact .inr (by omega)
      ·exact HL.o.hR x h)
     have HL4 := jQ hl4
     have HGE := jQ hge
     have HSZ4 := jQ hsz4
     have HRE := jQ hRe
     have hgeW : W1.heap.size ≤ ge ∧ w.heap.size + 1 < ge := by have := HZ1.o; omega
     clear hbe hl4 hz4 kt4 ke hst hsz4 hge hNB hRe hbR hlow y0 t0 lt0 ly0
     rintro e w5 ⟨V, n, (⟨rfl, h1, R', hi, hr, hbut⟩ | ⟨h1, rfl, hbut⟩), rfl, rfl⟩
     ·have hR' : ∀ x, R' x → R0 x ∨ W1.heap.size ≤ x := fun x hx => by
       rcases hr x hx with h | h
       ·exact HL.o.hR x h
       ·exact .inr (by have := HSZ4.o; have := HGE.o; omega)
      have hge' : ¬ R' ge := fun h => by
       rcases hr ge h with h | h
       ·exact HRE.o h
       ·have := HSZ4.o; have := HGE.o; omega
      have hl5 := HL4.o.change HZ1.o HR0.o h9 hbut HX.o hi hR'
      have hset : But (fun x => x = ge) V (V.setCell ⟨ge, 0, none⟩ (.int .i64 0)) := But.set (X := fun x => x = ge) (But.refl _ _) rfl _
      have hl6 := hl5.change HZ1.o HR0.o h9 hset (fun x hx => .inr (by have h2 : x = ge := hx; omega)) (HS.o.keep _ _ _ _ _ _ hi hset (fun x hx => ⟨by rw [show x = ge from hx]; exact hge', by have h2 : x = ge := hx; omega⟩)) hR'
      have HL6 := jQ hl6
      have HD4 := jQ ((if_pos h1).symm.trans HD3.o)
      clear hl5 hl6 hset hbut hi hr h1
      go_wp2_with fail
      go_roundw
      case rel => exact ⟨k + 1, m + 1, _, R', by omega, by omega, by go_num, HD4.o, HL6.o⟩
      case measure => simp [intOf]; omega
     ·have HD4 := jQ ((if_neg h1).symm.trans HD3.o)
      have g6 : ((step s ws).1 != 0) = true := by simpa using h1
      have hkR : Bk V (w.heap.size + 1) 70 #[.int .i64 0, .int .i64 0] := hbut.bk HL4.o.kR (fun h => by
       rcases HX.o _ h with h | h
       ·have := HR0.o _ h; omega
       ·have := HZ1.o; omega)
      have hkR2 := hkR.far (p := ⟨ge, 0, none⟩) (show w.heap.size + 1 ≠ ge by omega) (.int .i64 (step s ws).1)
      have KR2 := jQ hkR2
      have hB : But R0 w (V.setCell ⟨ge, 0, none⟩ (.int .i64 (step s ws).1)) := by
       have h := HL4.o.but
       refine But.new_set' ⟨hbut.os.trans h.os, hbut.tape.trans h.tape, hbut.output.trans h.output, Nat.le_trans h.size hbut.size, fun x hx1 hx2 => (hbut.block x (Nat.lt_of_lt_of_le hx1 h.size) (fun hx3 => ?_)).trans (h.block x hx1 hx2)⟩ (show w.heap.size ≤ ge by omega) _
       rcases HX.o x hx3 with h4 | h4
       ·exact hx2 h4
       ·have := HZ1.o; omega
      have HB := jQ (But.new_row hB (show w.heap.size ≤ w.heap.size + 1 by omega) #[.int .i64 (step s ws).1, .int .i64 ((k + 1 : Nat) : Int)])
      have H1 := jQ h1
      obtain ⟨er, her⟩ : ∃ er, (step s ws).1 = er := ⟨_, rfl⟩
      rw [her] at g6 KR2 HB HD4 H1 ⊢
      clear hkR hkR2 hB hbut h1 her
      go_wp2_with (refine wpList_store_row rfl 70 (.tmp 4) (.tmp 36) rfl (w.heap.size + 1) _ rfl rfl 70 _ KR2.o (by kernel_rfl) rfl (by kernel_rfl) ?_)
      refine bodyPost_ret (results_cell_row1 rfl _ _ (w.heap.size + 1) 70 _ (0, 0) _ rfl (KR2.o.row _) Tryz.underlying70 rfl (by kernel_rfl)) rfl ⟨by rw [← HD4.o], HB.o, fun h => ?_⟩
      rw [← HD4.o] at h
      exact absurd (congrArg Prod.fst h) H1.o
   ·have hkl : k = lines.length := by omega
    subst hkl
    have HE := jQ (show Dd.linesG step s0 lines 1 = ((0, 0), s) by rw [← HRUN.o, List.drop_length]; rfl)
    rw [HE.o]
    have n0 := (hL.kR.cell 0).trans rfl
    have n1 := (hL.kR.cell 1).trans rfl
    have m0 := hL.kR.frozen 0
    have m1 := hL.kR.frozen 1
    have l1 := hL.kR.lt
    clear hL
    go_wp2_with (refine wpList_store_row rfl 70 (.tmp 4) (.tmp 38) rfl (w.heap.size + 1) _ rfl rfl 70 _ HL.o.kR (by kernel_rfl) rfl (by kernel_rfl) ?_)
    obtain ⟨h1, h2, h3⟩ := HL.o.row HZ1.o HR0.o #[.int .i64 0, .int .i64 0]
    refine bodyPost_ret (results_cell_row1 rfl _ _ (w.heap.size + 1) 70 _ (0, 0) _ rfl (HL.o.kR.row _) Tryz.underlying70 rfl (by kernel_rfl)) rfl ⟨by rw [HE.o], h1, fun _ => ⟨R, m, by omega, by rw [HE.o]; exact HS.o.keep _ _ _ _ _ _ HL.o.inv h2 h3, fun x hx => ?_⟩⟩
    rcases HL.o.hR x hx with h4 | h4
    ·exact .inl h4
    ·exact .inr (by have := HZ1.o; omega)
end

section
open Go.RowKit
theorem own_but {X : Nat → Prop} {w w' : World} {base e size n : Nat} {v : Value} {xs : List Value} (h : w.ownsRow base e size v n xs) (hb : But X w w') (hx : ∀ k, v.ownBlock = some k → ¬ X k) : w'.ownsRow base e size v n xs := by
 obtain ⟨h1, (h2 | ⟨g, cap, cur, rfl, h3, h4, h5⟩)⟩ := h
 ·exact ⟨h1, .inl h2⟩
 ·exact ⟨h1, .inr ⟨g, cap, cur, rfl, h3, (hb.block g (Array.getElem?_eq_some_iff.1 h4).1 (hx g rfl)).trans h4, h5⟩⟩
theorem But.grown {w w' : World} {row : Option Nat} (h : w.grownBy w' row) : But (fun k => row = some k) w w' :=
 ⟨h.os, h.tape, h.output, h.size, fun k hk hx => h.block k hk (fun e => hx e.symm)⟩
theorem own_disj {w : World} {B1 B2 e1 e2 z1 z2 n1 n2 : Nat} {u v : Value} {xs ys : List Value} (hu : w.ownsRow B1 e1 z1 u n1 xs) (hv : w.ownsRow B2 e2 z2 v n2 ys) (hne : e1 ≠ e2) (k : Nat) (h1 : u.ownBlock = some k) : v.ownBlock ≠ some k := by
 intro h2
 obtain ⟨_, (⟨rfl, _⟩ | ⟨g, cap, cur, rfl, _, a1, _⟩)⟩ := hu
 ·cases h1
 obtain ⟨_, (⟨rfl, _⟩ | ⟨g', cap', cur', rfl, _, a2, _⟩)⟩ := hv
 ·cases h2
 simp only [Value.ownBlock, Option.some.injEq] at h1 h2
 subst h1 h2
 rw [a1] at a2
 simp only [Option.some.injEq, Obj.cells.injEq] at a2
 exact hne a2.2.1
theorem own_low {w : World} {base e size n : Nat} {v : Value} {xs : List Value} (h : w.ownsRow base e size v n xs) (k : Nat) (hk : v.ownBlock = some k) : base ≤ k ∧ k < w.heap.size := by
 obtain ⟨_, (⟨rfl, _⟩ | ⟨g, cap, cur, rfl, h1, h2, _⟩)⟩ := h
 ·cases hk
 ·simp only [Value.ownBlock, Option.some.injEq] at hk
  subst hk
  exact ⟨h1, (Array.getElem?_eq_some_iff.1 h2).1⟩
theorem own_capN {w : World} {base e size n : Nat} {A : Option Addr} {m c : Nat} {xs : List Value} (h : w.ownsRow base e size (.slice A m c) n xs) : m = n ∧ n ≤ c := by
 obtain ⟨_, (⟨h1, h2⟩ | ⟨g, cap, cur, h1, _, _, h3, _⟩)⟩ := h
 ·cases h1; exact ⟨h2.symm, by omega⟩
 ·cases h1; exact ⟨rfl, h3⟩
def sl (A : Option Addr) (n c : Nat) : Value := .slice A n c
theorem sl_def (A : Option Addr) (n c : Nat) : sl A n c = .slice A n c := rfl
structure Fo (V : World) (B g m : Nat) (f : Dd.Fd) (R : Nat → Prop) (v : Fv) : Prop where
 k : Bk V g 27 #[.slice v.a1 f.st.length v.c1, .slice v.a2 f.li.length v.c2, .slice v.a3 f.pa.length v.c3, .slice v.a4 f.va.length v.c4]
 o1 : V.ownsRow B 66 2 (sl v.a1 f.st.length v.c1) f.st.length (scells f.st)
 o2 : V.ownsRow B 9 1 (sl v.a2 f.li.length v.c2) f.li.length (wcells f.li)
 o3 : V.ownsRow B 68 4 (sl v.a3 f.pa.length v.c3) f.pa.length (pcells f.pa)
 o4 : V.ownsRow B 116 2 (sl v.a4 f.va.length v.c4) f.va.length (vcells f.va)
 hR : ∀ k, R k ↔ (k = g ∨ (sl v.a1 f.st.length v.c1).ownBlock = some k ∨ (sl v.a2 f.li.length v.c2).ownBlock = some k ∨ (sl v.a3 f.pa.length v.c3).ownBlock = some k ∨ (sl v.a4 f.va.length v.c4).ownBlock = some k)
 gB : 9 ≤ g ∧ g < B
 le : B ≤ V.heap.size
 l1 : f.st.length ≤ m
 l2 : f.li.length ≤ m
 l3 : f.pa.length ≤ m
 l4 : f.va.length ≤ m
 n1 : ∀ s ∈ f.st, s.1.length ≤ 1000000
 n2 : ∀ s ∈ f.li, s.length ≤ 1000000
 n3 : ∀ p ∈ f.pa, p.name.length ≤ 1000000
theorem Fo.keep {V V' : World} {B g m : Nat} {f : Dd.Fd} {R X : Nat → Prop} {v : Fv} (h : Fo V B g m f R v) (hb : But X V V') (hx : ∀ k, X k → ¬ R k) : Fo V' B g m f R v :=
 have hg : ¬ X g := fun hX => hx g hX ((h.hR g).2 (.inl rfl))
 ⟨hb.bk h.k hg, own_but h.o1 hb (fun k e hX => hx k hX ((h.hR k).2 (.inr (.inl e)))), own_but h.o2 hb (fun k e hX => hx k hX ((h.hR k).2 (.inr (.inr (.inl e))))),
  own_but h.o3 hb (fun k e hX => hx k hX ((h.hR k).2 (.inr (.inr (.inr (.inl e)))))), own_but h.o4 hb (fun k e hX => hx k hX ((h.hR k).2 (.inr (.inr (.inr (.inr e)))))),
  h.hR, h.gB, Nat.le_trans h.le hb.size, h.l1, h.l2, h.l3, h.l4, h.n1, h.n2, h.n3⟩
theorem Fo.low {V : World} {B g m : Nat} {f : Dd.Fd} {R : Nat → Prop} {v : Fv} (h : Fo V B g m f R v) (k : Nat) (hk : R k) : 9 ≤ k ∧ k < V.heap.size := by
 have hgB := h.gB
 have hle := h.le
 rcases (h.hR k).1 hk with e | e | e | e | e
 ·exact ⟨by omega, by have := h.k.lt; omega⟩
 ·have := own_low h.o1 k e; omega
 ·have := own_low h.o2 k e; omega
 ·have := own_low h.o3 k e; omega
 ·have := own_low h.o4 k e; omega
theorem Fo.rd {V : World} {B g m : Nat} {f : Dd.Fd} {R : Nat → Prop} {v : Fv} (h : Fo V B g m f R v) (hm : m ≤ 1000000) : FRd V V.heap.size v f := by
 have r1 := ownB_rd h.o1 h.o1.1
 have r2 := ownB_rd h.o2 h.o2.1
 have r3 := ownB_rd h.o3 h.o3.1
 have r4 := ownB_rd h.o4 h.o4.1
 obtain ⟨A1, C1, e1, q1, _⟩ := r1
 obtain ⟨A2, C2, e2, q2, _⟩ := r2
 obtain ⟨A3, C3, e3, q3, _⟩ := r3
 obtain ⟨A4, C4, e4, q4, _⟩ := r4
 simp only [sl, Value.slice.injEq] at e1 e2 e3 e4
 obtain ⟨rfl, _, rfl⟩ := e1
 obtain ⟨rfl, _, rfl⟩ := e2
 obtain ⟨rfl, _, rfl⟩ := e3
 obtain ⟨rfl, _, rfl⟩ := e4
 exact ⟨q1, q2, q3, q4, (own_capN h.o1).2, (own_capN h.o2).2, (own_capN h.o3).2, Nat.le_trans h.l1 hm, Nat.le_trans h.l2 hm, Nat.le_trans h.l3 hm, Nat.le_trans h.l4 hm, h.n1, h.n2, h.n3⟩
theorem Fo.more2 {V Vx V' : World} {B g m : Nat} {f : Dd.Fd} {R : Nat → Prop} {v : Fv} {n : Cs.Bs} {gn cn : Nat} (h : Fo V B g m f R v) (hn : n.length ≤ 1000000) (hx : Below V.heap.size V Vx)
  (ho : V'.ownsRow B 9 1 (.slice (some ⟨gn, 0, none⟩) (f.li.length + 1) cn) (f.li.length + 1) (wcells f.li ++ [.string ⟨n.toArray⟩])) (hg : Vx.grownBy V' (sl v.a2 f.li.length v.c2).ownBlock)
  (hat : (sl v.a2 f.li.length v.c2).ownBlock = some gn ∨ V.heap.size ≤ gn) :
  ∃ R' v', Fo (V'.setCell ⟨g, 1, none⟩ (.slice (some ⟨gn, 0, none⟩) (f.li.length + 1) cn)) B g (m + 1) { f with li := f.li ++ [n] } R' v' ∧ But R V (V'.setCell ⟨g, 1, none⟩ (.slice (some ⟨gn, 0, none⟩) (f.li.length + 1) cn)) ∧ ∀ k, R' k → R k ∨ V.heap.size ≤ k := by
 have hgB := h.gB
 have hle := h.le
 have hgz : g < Vx.heap.size := by have := h.k.lt; have := hx.size; omega
 have hB1 : But (fun k => (sl v.a2 f.li.length v.c2).ownBlock = some k) V V' := (But.of hx).trans (But.grown hg)
 have hne2 : ¬ (sl v.a2 f.li.length v.c2).ownBlock = some g := fun e => by have := own_low h.o2 g e; omega
 have hB2 : But R V (V'.setCell ⟨g, 1, none⟩ (.slice (some ⟨gn, 0, none⟩) (f.li.length + 1) cn)) :=
  (hB1.mono (fun k e => (h.hR k).2 (.inr (.inr (.inl e))))).set (p := ⟨g, 1, none⟩) ((h.hR g).2 (.inl rfl)) _
 have own' : ∀ {e z n' : Nat} {u : Value} {xs : List Value}, V.ownsRow B e z u n' xs → e ≠ 9 → (V'.setCell ⟨g, 1, none⟩ (.slice (some ⟨gn, 0, none⟩) (f.li.length + 1) cn)).ownsRow B e z u n' xs := fun hu hne =>
  own_but (own_but hu hB1 (fun k hk e2 => own_disj hu h.o2 hne k hk e2)) (But.set (X := fun k => k = g) (But.refl _ _) (p := ⟨g, 1, none⟩) rfl _) (fun k hk e => by have := own_low hu k hk; omega)
 refine ⟨_, ⟨v.a1, v.c1, some ⟨gn, 0, none⟩, cn, v.a3, v.c3, v.a4, v.c4⟩, ⟨?_, own' h.o1 (by decide), ?_, own' h.o3 (by decide), own' h.o4 (by decide), fun k => Iff.rfl, hgB, Nat.le_trans hle hB2.size, by have := h.l1; simp; omega, by have := h.l2; simp; omega, by have := h.l3; simp; omega, by have := h.l4; simp; omega, h.n1, ?_, h.n3⟩, hB2, ?_⟩
 ·have hk := (hB1.bk h.k hne2).set 1 (.slice (some ⟨gn, 0, none⟩) (f.li.length + 1) cn)
  simpa using hk
 ·have hw : wcells (f.li ++ [n]) = wcells f.li ++ [.string ⟨n.toArray⟩] := by simp [wcells, sv]
  have hl : (f.li ++ [n]).length = f.li.length + 1 := by simp
  rw [hw, hl]
  exact own_but ho (But.set (X := fun k => k = g) (But.refl _ _) (p := ⟨g, 1, none⟩) rfl _) (fun k hk e => by
   have := own_low ho k hk; omega)
 ·intro s hs
  rcases List.mem_append.1 hs with hs | hs
  ·exact h.n2 s hs
  ·rw [List.mem_singleton.1 hs]; exact hn
 ·intro k hk
  rcases hk with e | e | e | e | e
  ·exact .inl ((h.hR k).2 (.inl e))
  ·exact .inl ((h.hR k).2 (.inr (.inl e)))
  ·simp only [sl, Value.ownBlock, Option.some.injEq] at e
   subst e
   rcases hat with e | e
   ·exact .inl ((h.hR _).2 (.inr (.inr (.inl e))))
   ·exact .inr e
  ·exact .inl ((h.hR k).2 (.inr (.inr (.inr (.inl e)))))
  ·exact .inl ((h.hR k).2 (.inr (.inr (.inr (.inr e)))))
end

section
open Go.RowKit
def psl (p : Dp) : Value := sl p.2.1 p.1.calls.length p.2.2
theorem psl_def (p : Dp) : psl p = .slice p.2.1 p.1.calls.length p.2.2 := rfl
structure Dq (V : World) (F B g : Nat) (v : Fv) (f : Dd.Fd) (ps : List Dp) (A : Option Addr) (c : Nat) (R : Nat → Prop) : Prop where
 k : Bk V g 135 #[.slice v.a1 f.st.length v.c1, .slice v.a2 f.li.length v.c2, .slice v.a3 f.pa.length v.c3, .slice v.a4 f.va.length v.c4, .slice A ps.length c]
 o : V.ownsRow B 226 4 (sl A ps.length c) ps.length (dcells ps)
 oc : ∀ p ∈ ps, V.ownsRow B 48 13 (psl p) p.1.calls.length (cacells p.1.calls)
 dj : ps.Pairwise (fun p q => ∀ k, (psl p).ownBlock = some k → (psl q).ownBlock ≠ some k)
 hR : ∀ k, R k ↔ (k = g ∨ (sl A ps.length c).ownBlock = some k ∨ ∃ p ∈ ps, (psl p).ownBlock = some k)
 gB : 9 ≤ g ∧ g < B
 le : B ≤ V.heap.size
 fr : FRd V F v f
 fg : F ≤ g
 l1 : ps.length ≤ 60
 l2 : ∀ p ∈ ps, p.1.calls.length ≤ 20 ∧ p.1.name.length ≤ 1000000
section
variable {V V' Vx : World} {F B g : Nat} {v : Fv} {f : Dd.Fd} {ps : List Dp} {A : Option Addr} {c : Nat} {R X : Nat → Prop}
theorem Dq.keep (h : Dq V F B g v f ps A c R) (hb : But X V V') (hx : ∀ k, X k → ¬ R k ∧ F ≤ k) : Dq V' F B g v f ps A c R :=
 have hg : ¬ X g := fun hX => (hx g hX).1 ((h.hR g).2 (.inl rfl))
 ⟨hb.bk h.k hg, own_but h.o hb (fun k e hX => (hx k hX).1 ((h.hR k).2 (.inr (.inl e)))), fun p hp => own_but (h.oc p hp) hb (fun k e hX => (hx k hX).1 ((h.hR k).2 (.inr (.inr ⟨p, hp, e⟩)))),
  h.dj, h.hR, h.gB, Nat.le_trans h.le hb.size, h.fr.below (hb.below (fun k hX => (hx k hX).2) (Nat.le_trans h.fg (Nat.le_trans (Nat.le_of_lt h.gB.2) h.le))) (Nat.le_refl _), h.fg, h.l1, h.l2⟩
theorem Dq.low (h : Dq V F B g v f ps A c R) (k : Nat) (hk : R k) : (9 ≤ k ∧ F ≤ k) ∧ k < V.heap.size := by
 have hgB := h.gB
 have hle := h.le
 have hfg := h.fg
 rcases (h.hR k).1 hk with e | e | ⟨p, hp, e⟩
 ·exact ⟨by omega, by have := h.k.lt; omega⟩
 ·have := own_low h.o k e; omega
 ·have := own_low (h.oc p hp) k e; omega
theorem Dq.more {d : Dd.De} {gn cn : Nat} (h : Dq V F B g v f ps A c R) (hd : d.calls = []) (hn : d.name.length ≤ 1000000) (hl : ps.length < 60) (hx : Below V.heap.size V Vx)
  (ho : V'.ownsRow B 226 4 (.slice (some ⟨gn, 0, none⟩) (ps.length + 1) cn) (ps.length + 1) (dcells ps ++ dcell (d, none, 0))) (hg : Vx.grownBy V' (sl A ps.length c).ownBlock)
  (hat : (sl A ps.length c).ownBlock = some gn ∨ V.heap.size ≤ gn) :
  ∃ R', Dq (V'.setCell ⟨g, 4, none⟩ (.slice (some ⟨gn, 0, none⟩) (ps.length + 1) cn)) F B g v f (ps ++ [(d, none, 0)]) (some ⟨gn, 0, none⟩) cn R' ∧ But R V (V'.setCell ⟨g, 4, none⟩ (.slice (some ⟨gn, 0, none⟩) (ps.length + 1) cn)) ∧ ∀ k, R' k → R k ∨ V.heap.size ≤ k := by
 have hgB := h.gB
 have hle := h.le
 have hfg := h.fg
 have hgz : g < Vx.heap.size := by have := h.k.lt; have := hx.size; omega
 have hB1 : But (fun k => (sl A ps.length c).ownBlock = some k) V V' := (But.of hx).trans (But.grown hg)
 have hne2 : ¬ (sl A ps.length c).ownBlock = some g := fun e => by have := own_low h.o g e; omega
 have hB2 : But R V (V'.setCell ⟨g, 4, none⟩ (.slice (some ⟨gn, 0, none⟩) (ps.length + 1) cn)) :=
  (hB1.mono (fun k e => (h.hR k).2 (.inr (.inl e)))).set (p := ⟨g, 4, none⟩) ((h.hR g).2 (.inl rfl)) _
 have own' : ∀ {e z n' : Nat} {u : Value} {xs : List Value}, V.ownsRow B e z u n' xs → e ≠ 226 → (V'.setCell ⟨g, 4, none⟩ (.slice (some ⟨gn, 0, none⟩) (ps.length + 1) cn)).ownsRow B e z u n' xs := fun hu hne =>
  own_but (own_but hu hB1 (fun k hk e2 => own_disj hu h.o hne k hk e2)) (But.set (X := fun k => k = g) (But.refl _ _) (p := ⟨g, 4, none⟩) rfl _) (fun k hk e => by have := own_low hu k hk; omega)
 have hnew : (psl (d, none, 0)).ownBlock = none := rfl
 refine ⟨_, ⟨?_, ?_, ?_, ?_, fun k => Iff.rfl, hgB, Nat.le_trans hle hB2.size, ?_, hfg, by simp; omega, ?_⟩, hB2, ?_⟩
 ·have hk := (hB1.bk h.k hne2).set 4 (.slice (some ⟨gn, 0, none⟩) (ps.length + 1) cn)
  simpa using hk
 ·have e1 : dcells (ps ++ [((d, none, 0) : Dp)]) = dcells ps ++ dcell (d, none, 0) := by simp [dcells]
  have e2 : (ps ++ [((d, none, 0) : Dp)]).length = ps.length + 1 := by simp
  rw [e1, e2]
  exact own_but ho (But.set (X := fun k => k = g) (But.refl _ _) (p := ⟨g, 4, none⟩) rfl _) (fun k hk e => by
   have := own_low ho k hk; omega)
 ·intro p hp
  rcases List.mem_append.1 hp with hp | hp
  ·exact own' (h.oc p hp) (by decide)
  ·rw [List.mem_singleton.1 hp]
   rw [psl_def]
   simp only [hd]
   exact World.ownsRow_nil _ _ _ _
 ·rw [List.pairwise_append]
  refine ⟨h.dj, List.pairwise_singleton _ _, fun p _ q hq k _ => ?_⟩
  rw [List.mem_singleton.1 hq, hnew]
  simp
 ·exact h.fr.below (hB2.below (fun k hk => (h.low k hk).1.2) (by omega)) (Nat.le_refl _)
 ·intro p hp
  rcases List.mem_append.1 hp with hp | hp
  ·exact h.l2 p hp
  ·rw [List.mem_singleton.1 hp]
   exact ⟨by simp [hd], hn⟩
 ·intro k hk
  rcases hk with e | e | ⟨p, hp, e⟩
  ·exact .inl ((h.hR k).2 (.inl e))
  ·simp only [sl, Value.ownBlock, Option.some.injEq] at e
   subst e
   rcases hat with e | e
   ·exact .inl ((h.hR _).2 (.inr (.inl e)))
   ·exact .inr e
  ·rcases List.mem_append.1 hp with hp | hp
   ·exact .inl ((h.hR k).2 (.inr (.inr ⟨p, hp, e⟩)))
   ·rw [List.mem_singleton.1 hp, hnew] at e
    cases e
theorem Dq.call {d : Dd.De} {A1 : Option Addr} {c1 gd gn cn : Nat} {x : Dd.Ca} (h : Dq V F B g v f (ps ++ [(d, A1, c1)]) A c R) (hA : A = some ⟨gd, 0, none⟩) (hl : d.calls.length < 20) (hx : Below V.heap.size V Vx)
  (ho : V'.ownsRow B 48 13 (.slice (some ⟨gn, 0, none⟩) (d.calls.length + 1) cn) (d.calls.length + 1) (cacells d.calls ++ cacell x)) (hg : Vx.grownBy V' (psl (d, A1, c1)).ownBlock)
  (hat : (psl (d, A1, c1)).ownBlock = some gn ∨ V.heap.size ≤ gn) :
  ∃ R', Dq (V'.setCell ⟨gd, ps.length * 4 + 3, none⟩ (.slice (some ⟨gn, 0, none⟩) (d.calls.length + 1) cn)) F B g v f (ps ++ [({ d with calls := d.calls ++ [x] }, some ⟨gn, 0, none⟩, cn)]) A c R' ∧ But R V (V'.setCell ⟨gd, ps.length * 4 + 3, none⟩ (.slice (some ⟨gn, 0, none⟩) (d.calls.length + 1) cn)) ∧ ∀ k, R' k → R k ∨ V.heap.size ≤ k := by
 subst hA
 have hgB := h.gB
 have hle := h.le
 have hfg := h.fg
 have hm : ((d, A1, c1) : Dp) ∈ ps ++ [(d, A1, c1)] := by simp
 have hob := h.oc _ hm
 have hdB := own_low h.o gd rfl
 have hB1 : But (fun k => (psl (d, A1, c1)).ownBlock = some k) V V' := (But.of hx).trans (But.grown hg)
 have hneg : ¬ (psl (d, A1, c1)).ownBlock = some g := fun e => by have := own_low hob g e; omega
 have hned : ¬ (psl (d, A1, c1)).ownBlock = some gd := fun e => own_disj hob h.o (by decide) gd e rfl
 have hB2 : But R V (V'.setCell ⟨gd, ps.length * 4 + 3, none⟩ (.slice (some ⟨gn, 0, none⟩) (d.calls.length + 1) cn)) :=
  (hB1.mono (fun k e => (h.hR k).2 (.inr (.inr ⟨_, hm, e⟩)))).set (p := ⟨gd, ps.length * 4 + 3, none⟩) ((h.hR gd).2 (.inr (.inl rfl))) _
 have ho1 := own_but h.o hB1 (fun k hk e2 => own_disj hob h.o (by decide) k e2 hk)
 have hs1 : ∀ {e z n' : Nat} {u : Value} {xs : List Value}, V'.ownsRow B e z u n' xs → (¬ u.ownBlock = some gd) → (V'.setCell ⟨gd, ps.length * 4 + 3, none⟩ (.slice (some ⟨gn, 0, none⟩) (d.calls.length + 1) cn)).ownsRow B e z u n' xs := fun hu hne =>
  own_but hu (But.set (X := fun k => k = gd) (But.refl _ _) (p := ⟨gd, ps.length * 4 + 3, none⟩) rfl _) (fun k hk e => hne (by rw [hk, show k = gd from e]))
 have hlen : (ps ++ [(({ d with calls := d.calls ++ [x] }, some ⟨gn, 0, none⟩, cn) : Dp)]).length = (ps ++ [(d, A1, c1)]).length := by simp
 obtain ⟨dj1, _, dj2⟩ := List.pairwise_append.1 h.dj
 refine ⟨_, ⟨?_, ?_, ?_, ?_, fun k => Iff.rfl, hgB, Nat.le_trans hle hB2.size, ?_, hfg, by rw [hlen]; exact h.l1, ?_⟩, hB2, ?_⟩
 ·rw [hlen]
  exact (hB1.bk h.k hneg).far (p := ⟨gd, ps.length * 4 + 3, none⟩) (by show g ≠ gd; omega) _
 ·rw [hlen]
  have := (World.ownsRow.stored ho1 (ps.length * 4 + 3) (.slice (some ⟨gn, 0, none⟩) (d.calls.length + 1) cn)).1
  rw [show dcells (ps ++ [(({ d with calls := d.calls ++ [x] }, some ⟨gn, 0, none⟩, cn) : Dp)]) = (dcells (ps ++ [(d, A1, c1)])).set (ps.length * 4 + 3) (.slice (some ⟨gn, 0, none⟩) (d.calls.length + 1) cn) by
   have e1 : dcells (ps ++ [(d, A1, c1)]) = dcells ps ++ dcell (d, A1, c1) := by simp [dcells]
   have e2 : dcells (ps ++ [(({ d with calls := d.calls ++ [x] }, some ⟨gn, 0, none⟩, cn) : Dp)]) = dcells ps ++ dcell ({ d with calls := d.calls ++ [x] }, some ⟨gn, 0, none⟩, cn) := by simp [dcells]
   have e3 : (dcells ps).length = ps.length * 4 := flatl_len dcell_len ps
   rw [e1, e2, List.set_append, if_neg (by omega), e3, Nat.add_sub_cancel_left]
   simp [dcell]]
  exact this
 ·intro p hp
  rcases List.mem_append.1 hp with hp | hp
  ·refine hs1 (own_but (h.oc p (List.mem_append_left _ hp)) hB1 (fun k hk e2 => dj2 p hp _ (List.mem_singleton.2 rfl) k hk e2)) (fun e => own_disj (h.oc p (List.mem_append_left _ hp)) h.o (by decide) gd e rfl)
  ·rw [List.mem_singleton.1 hp]
   rw [psl_def]
   simp only [List.length_append, List.length_cons, List.length_nil, Nat.zero_add]
   rw [show cacells (d.calls ++ [x]) = cacells d.calls ++ cacell x by simp [cacells]]
   exact hs1 ho (fun e => own_disj ho ho1 (by decide) gd e rfl)
 ·rw [List.pairwise_append]
  refine ⟨dj1, List.pairwise_singleton _ _, fun p hp q hq k hk hk2 => ?_⟩
  rw [List.mem_singleton.1 hq, psl_def] at hk2
  simp only [Value.ownBlock, Option.some.injEq] at hk2
  subst hk2
  rcases hat with e | e
  ·exact dj2 p hp _ (List.mem_singleton.2 rfl) _ hk e
  ·have := own_low (h.oc p (List.mem_append_left _ hp)) _ hk
   omega
 ·exact h.fr.below (hB2.below (fun k hk => (h.low k hk).1.2) (by omega)) (Nat.le_refl _)
 ·intro p hp
  rcases List.mem_append.1 hp with hp | hp
  ·exact h.l2 p (List.mem_append_left _ hp)
  ·rw [List.mem_singleton.1 hp]
   exact ⟨by simp; omega, (h.l2 _ hm).2⟩
 ·intro k hk
  rcases hk with e | e | ⟨p, hp, e⟩
  ·exact .inl ((h.hR k).2 (.inl e))
  ·exact .inl ((h.hR k).2 (.inr (.inl e)))
  ·rcases List.mem_append.1 hp with hp | hp
   ·exact .inl ((h.hR k).2 (.inr (.inr ⟨p, List.mem_append_left _ hp, e⟩)))
   ·rw [List.mem_singleton.1 hp, psl_def] at e
    simp only [Value.ownBlock, Option.some.injEq] at e
    subst e
    rcases hat with e | e
    ·exact .inl ((h.hR _).2 (.inr (.inr ⟨_, hm, e⟩)))
    ·exact .inr e
end
structure DeRd (w : World) (B : Nat) (A : Option Addr) (ps : List Dp) : Prop where
 l : Rd w B 4 A ps.length (dcells ps)
 c : ∀ p ∈ ps, Rd w B 13 p.2.1 p.1.calls.length (cacells p.1.calls) ∧ p.1.calls.length ≤ p.2.2
theorem Dq.rd {V : World} {F B g : Nat} {v : Fv} {f : Dd.Fd} {ps : List Dp} {A : Option Addr} {c : Nat} {R : Nat → Prop} (h : Dq V F B g v f ps A c R) : DeRd V V.heap.size A ps ∧ ps.length ≤ c := by
 refine ⟨⟨?_, fun p hp => ?_⟩, (own_capN h.o).2⟩
 ·obtain ⟨A1, C1, e1, q1, _⟩ := ownB_rd h.o h.o.1
  simp only [sl, Value.slice.injEq] at e1
  obtain ⟨rfl, _, rfl⟩ := e1
  exact q1
 ·obtain ⟨A1, C1, e1, q1, _⟩ := ownB_rd (h.oc p hp) (h.oc p hp).1
  simp only [psl, sl, Value.slice.injEq] at e1
  obtain ⟨rfl, _, rfl⟩ := e1
  exact ⟨q1, (own_capN (h.oc p hp)).2⟩
end

section
open Go.RowKit
def Fs3 (r : Int × List Dd.De) (F B g b : Nat) (v : Fv) (f : Dd.Fd) (R : Nat → Prop) (V : World) (e : Ending) (V' : World) : Prop :=
 But (fun k => k = b ∨ R k) V V' ∧ ((r.1 = 0 ∧ e = .returned (.tuple #[]) ∧ ∃ ps' A' c' R', ps'.map (fun p : Dp => p.1) = r.2 ∧ Dq V' F B g v f ps' A' c' R' ∧ ∀ k, R' k → R k ∨ V.heap.size ≤ k) ∨ (r.1 ≠ 0 ∧ e = .panicked [pan r.1]))
theorem Fs3.no {r : Int × List Dd.De} {F B g b : Nat} {v : Fv} {f : Dd.Fd} {R : Nat → Prop} {V V' : World} {n : Int} (hr : r.1 = n) (hn : n ≠ 0) (hb : But (fun k => k = b) V V') : Fs3 r F B g b v f R V (.panicked [pan n]) V' :=
 ⟨hb.mono (fun k h => .inl h), .inr ⟨by rw [hr]; exact hn, by rw [hr]⟩⟩
def drw1 (w : World) (d : Dd.Dr) : World := (w.alloc (.cells zero17 130)).setRow w.heap.size (drcells d).toArray
theorem drw1_below (w : World) (d : Dd.Dr) : Below w.heap.size w (drw1 w d) := Below.rowNew ((Below.refl _ _).alloc (Nat.le_refl _) _) (Nat.le_refl _) _
theorem drw1_bk (w : World) (d : Dd.Dr) : Bk (drw1 w d) w.heap.size 130 (drcells d).toArray := (Bk.new w 130 zero17).row _
theorem readCallD_none (F B g b : Nat) (v : Fv) (f : Dd.Fd) (ps : List Dp) (A : Option Addr) (c : Nat) (R : Nat → Prop) (ws : List Cs.Bs) (V : World) (hE : Env V) (hz : Wz V b ws) (hn : Dd.draftE ws = none) :
  Calls Tryz.prog 163 #[.pointer (some ⟨g, 0, none⟩), .pointer (some ⟨b, 0, none⟩)] V fun e V' => e = .panicked [pan 4] ∧ But (fun k => k = b) V V' := by
 have RD := jQ (readDraft_any b ws V hE hz)
 have HN := jQ hn
 clear hn hE hz
 go_enter Tryz.func163, Tryz.ntmps163
 go_wp2_with fail
 refine RD.o.mono ?_
 intro e w1 he
 obtain ⟨rfl, hb⟩ := he.none_ HN.o
 clear he
 go_wp2_with fail
 exact ⟨rfl, rfl, hb⟩
theorem readCallD_few (F B g b : Nat) (v : Fv) (f : Dd.Fd) (A : Option Addr) (c : Nat) (R : Nat → Prop) (ws : List Cs.Bs) (V : World) (hE : Env V) (hz : Wz V b ws) (d : Dd.Dr) (r : List Cs.Bs) (hn : Dd.draftE ws = some (d, r)) (hQ : Dq V F B g v f [] A c R) (hbR : ¬ R b) :
  Calls Tryz.prog 163 #[.pointer (some ⟨g, 0, none⟩), .pointer (some ⟨b, 0, none⟩)] V fun e V' => e = .panicked [pan 4] ∧ But (fun k => k = b) V V' := by
 have RD := jQ (readDraft_any b ws V hE hz)
 have HN := jQ hn
 have kg := hQ.k
 have hgb : g ≠ b := fun e => hbR ((hQ.hR b).2 (.inl e.symm))
 have KG := jQ kg
 have hdd : drval d = .agg (drcells d).toArray := rfl
 clear hn hE hz hQ hbR kg
 go_enter Tryz.func163, Tryz.ntmps163
 go_wp2_with fail
 refine RD.o.mono ?_
 intro e w1 he
 obtain ⟨rfl, hb, hz1⟩ := he.some_ HN.o
 have HB := jQ hb
 have hkn := Bk.new w1 130 zero17
 have HKN := jQ hkn
 have kg1 := hb.bk KG.o hgb
 have KG1 := jQ (kg1.below (drw1_below w1 d) kg1.lt)
 have hgl := KG1.o.lt
 have c4 := (KG1.o.cell 4).trans rfl
 have hwd : (w1.alloc (.cells zero17 130)).setRow w1.heap.size (drcells d).toArray = drw1 w1 d := rfl
 have HWD := jQ hwd
 clear he hb hz1 hkn kg1 hwd
 simp only [zero17] at HKN HWD
 go_wp2_with (refine wpList_store_row rfl 130 (.tmp 4) (.tmp 7) rfl w1.heap.size (drcells d).toArray rfl rfl 130 _ HKN.o (by kernel_rfl) rfl (by kernel_rfl) ?_; rw [HWD.o])
 refine (need_no _ _).mono ?_
 rintro e w2 ⟨rfl, hb2⟩
 go_wp2_with fail
 exact ⟨rfl, rfl, HB.o.trans (But.of ((drw1_below w1 d).trans (hb2.mono (drw1_below w1 d).size)))⟩
theorem Dq.last {V : World} {F B g : Nat} {v : Fv} {f : Dd.Fd} {qs : List Dp} {z : Dp} {A : Option Addr} {c : Nat} {R : Nat → Prop} (h : Dq V F B g v f (qs ++ [z]) A c R) :
  ∃ gd, A = some ⟨gd, 0, none⟩ ∧ gd < V.heap.size ∧ V.cell? ⟨g, 4, none⟩ = some (.slice (some ⟨gd, 0, none⟩) (qs.length + 1) c) ∧ V.cell? ⟨gd, qs.length * 4 + 1, none⟩ = some (.int .i64 z.1.year) ∧ V.cell? ⟨gd, qs.length * 4 + 3, none⟩ = some (.slice z.2.1 z.1.calls.length z.2.2) ∧ V.frozen? ⟨gd, qs.length * 4 + 3, none⟩ = false ∧ qs.length ≤ 59 := by
 have hl := h.l1
 have hlen : (qs ++ [z]).length = qs.length + 1 := by simp
 have c4 := (h.k.cell 4).trans rfl
 rcases h.o.2 with ⟨h1, h2⟩ | ⟨gd, cap, cur, h1, hb, hg, hn, hcm, hcs, htake⟩
 ·rw [hlen] at h2; omega
 ·simp only [sl, Value.slice.injEq] at h1
  obtain ⟨rfl, _, rfl⟩ := h1
  obtain ⟨b, off, e, hb2, d0, d1, d2, d3⟩ := (Dq.rd h).1.l.deed (k := qs.length) (by rw [hlen]; omega)
  cases e
  rw [Nat.zero_add] at d1 d3
  rw [List.getElem_append_right (Nat.le_refl _)] at d1 d3
  simp only [Nat.sub_self, List.getElem_cons_zero] at d1 d3
  rw [hlen] at c4
  exact ⟨gd, rfl, hb2, c4, d1, d3, by simp [World.frozen?, hg], by omega⟩
structure Rq (w1 : World) (F B g : Nat) (v : Fv) (f : Dd.Fd) (qs : List Dp) (z : Dp) (gd c : Nat) (R : Nat → Prop) (d : Dd.Dr) (W : World) : Prop where
 q : Dq W F B g v f (qs ++ [z]) (some ⟨gd, 0, none⟩) c R
 kd : Bk W w1.heap.size 130 (drcells d).toArray
 b : Below w1.heap.size w1 W
 env : Env W
section
variable {w1 W W' : World} {F B g gd c : Nat} {v : Fv} {f : Dd.Fd} {qs : List Dp} {z : Dp} {R : Nat → Prop} {d : Dd.Dr}
theorem Rq.next (h : Rq w1 F B g v f qs z gd c R d W) (hb : Below W.heap.size W W') : Rq w1 F B g v f qs z gd c R d W' :=
 ⟨h.q.keep (But.of hb (X := fun _ => False)) (fun k hk => hk.elim), h.kd.below hb h.kd.lt, h.b.trans (hb.mono h.b.size), h.env.step hb⟩
theorem Rq.last (h : Rq w1 F B g v f qs z gd c R d W) : W.cell? ⟨g, 4, none⟩ = some (.slice (some ⟨gd, 0, none⟩) (qs.length + 1) c) ∧ W.cell? ⟨gd, qs.length * 4 + 1, none⟩ = some (.int .i64 z.1.year) ∧ W.cell? ⟨gd, qs.length * 4 + 3, none⟩ = some (.slice z.2.1 z.1.calls.length z.2.2) ∧
  W.frozen? ⟨gd, qs.length * 4 + 3, none⟩ = false ∧ g < W.heap.size ∧ gd < W.heap.size ∧ w1.heap.size < W.heap.size := by
 obtain ⟨gd', e, h1, h2, h3, h4, h5, _⟩ := h.q.last
 cases e
 exact ⟨h2, h3, h4, h5, h.q.k.lt, h1, h.kd.lt⟩
end
theorem readCallD_full (F B g b : Nat) (v : Fv) (f : Dd.Fd) (qs : List Dp) (z : Dp) (A : Option Addr) (c : Nat) (R : Nat → Prop) (ws : List Cs.Bs) (V : World) (hE : Env V) (hz : Wz V b ws) (d : Dd.Dr) (r : List Cs.Bs) (hn : Dd.draftE ws = some (d, r)) (hQ : Dq V F B g v f (qs ++ [z]) A c R) (hbR : ¬ R b) (hFb : F ≤ b) (h9 : 9 ≤ b) (h20 : 20 ≤ z.1.calls.length) :
  Calls Tryz.prog 163 #[.pointer (some ⟨g, 0, none⟩), .pointer (some ⟨b, 0, none⟩)] V fun e V' => e = .panicked [pan 2] ∧ But (fun k => k = b) V V' := by
 obtain ⟨gd, rfl, _, _, _, _, _, hm⟩ := hQ.last
 have RD := jQ (readDraft_any b ws V hE hz)
 have HN := jQ hn
 have HQ := jQ hQ
 have HBR := jQ hbR
 have HE := jQ hE
 have hll := (hQ.l2 z (by simp)).1
 have h20' : z.1.calls.length = 20 := by omega
 have H20 := jQ h20'
 obtain ⟨m, hmm⟩ : ∃ m, qs.length = m := ⟨_, rfl⟩
 have HMM := jQ hmm
 rw [hmm] at hm
 have hwm : IntKind.i64.wrap ((m : Int) + 1 - 1) = (m : Int) := by rw [IntWalk.i64_in _ (by omega)]; omega
 have hm0 : (0 : Int) ≤ (m : Int) := Int.natCast_nonneg _
 have hm1 : (m : Int) < (m : Int) + 1 := by omega
 have hgt : decide ((m : Int) + 1 > 0) = true := decide_eq_true (by omega)
 clear hn hE hz hQ hbR hmm h20 h20' hll
 go_enter Tryz.func163, Tryz.ntmps163
 go_wp2_with fail
 refine RD.o.mono ?_
 intro e w1 he
 obtain ⟨rfl, hb, hz1⟩ := he.some_ HN.o
 have HB := jQ hb
 have HKN := jQ (Bk.new w1 130 zero17)
 have S0 := jQ (show Rq w1 F B g v f qs z gd c R d (drw1 w1 d) from ⟨(HQ.o.keep hb (fun k hk => by rw [show k = b from hk]; exact ⟨HBR.o, hFb⟩)).keep (But.of (drw1_below w1 d) (X := fun _ => False)) (fun k hk => hk.elim), drw1_bk w1 d, drw1_below w1 d, (HE.o.but1 hb h9).step (drw1_below w1 d)⟩)
 obtain ⟨c4, d1, d3, _, hgl, hgd, _⟩ := S0.o.last
 have HWD := jQ (show (w1.alloc (.cells zero17 130)).setRow w1.heap.size (drcells d).toArray = drw1 w1 d from rfl)
 rw [HMM.o] at c4 d1 d3
 rw [H20.o] at d3
 clear he hb hz1
 simp only [zero17] at HKN HWD
 go_wp2_with (refine wpList_store_row rfl 130 (.tmp 4) (.tmp 7) rfl w1.heap.size (drcells d).toArray rfl rfl 130 _ HKN.o (by kernel_rfl) rfl (by kernel_rfl) ?_; rw [HWD.o])
 refine (need_yes _ _).mono ?_
 rintro e w2 ⟨rfl, hb2⟩
 have S2 := jQ (S0.o.next hb2)
 clear hb2 c4 d1 d3 hgl hgd S0
 obtain ⟨c4, d1, d3, _, hgl, hgd, _⟩ := S2.o.last
 rw [HMM.o] at c4 d1 d3
 rw [H20.o] at d3
 go_wp2_with fail
 go_quiet (fail)
 go_wp2_with fail
 refine (need_no _ _).mono ?_
 rintro e w3 ⟨rfl, hb3⟩
 go_wp2_with fail
 exact ⟨rfl, rfl, HB.o.trans (But.of (((below_drewN S2.o.b nq)).trans (hb3.mono (show w1.heap.size ≤ (w2.drewN nq).heap.size from S2.o.b.size))))⟩
end

section
open Go.RowKit
theorem Fo.more1 {V Vx V' : World} {B g m : Nat} {f : Dd.Fd} {R : Nat → Prop} {v : Fv} {n : Cs.Bs × Int} {gn cn : Nat} (h : Fo V B g m f R v) (hn : n.1.length ≤ 1000000) (hx : Below V.heap.size V Vx)
  (ho : V'.ownsRow B 66 2 (.slice (some ⟨gn, 0, none⟩) (f.st.length + 1) cn) (f.st.length + 1) (scells f.st ++ [.string ⟨n.1.toArray⟩, .int .i64 n.2])) (hg : Vx.grownBy V' (sl v.a1 f.st.length v.c1).ownBlock)
  (hat : (sl v.a1 f.st.length v.c1).ownBlock = some gn ∨ V.heap.size ≤ gn) :
  ∃ R' v', Fo (V'.setCell ⟨g, 0, none⟩ (.slice (some ⟨gn, 0, none⟩) (f.st.length + 1) cn)) B g (m + 1) { f with st := f.st ++ [n] } R' v' ∧ But R V (V'.setCell ⟨g, 0, none⟩ (.slice (some ⟨gn, 0, none⟩) (f.st.length + 1) cn)) ∧ ∀ k, R' k → R k ∨ V.heap.size ≤ k := by
 have hgB := h.gB
 have hle := h.le
 have hgz : g < Vx.heap.size := by have := h.k.lt; have := hx.size; omega
 have hB1 : But (fun k => (sl v.a1 f.st.length v.c1).ownBlock = some k) V V' := (But.of hx).trans (But.grown hg)
 have hne2 : ¬ (sl v.a1 f.st.length v.c1).ownBlock = some g := fun e => by have := own_low h.o1 g e; omega
 have hB2 : But R V (V'.setCell ⟨g, 0, none⟩ (.slice (some ⟨gn, 0, none⟩) (f.st.length + 1) cn)) :=
  (hB1.mono (fun k e => (h.hR k).2 (.inr (.inl e)))).set (p := ⟨g, 0, none⟩) ((h.hR g).2 (.inl rfl)) _
 have own' : ∀ {e z n' : Nat} {u : Value} {xs : List Value}, V.ownsRow B e z u n' xs → e ≠ 66 → (V'.setCell ⟨g, 0, none⟩ (.slice (some ⟨gn, 0, none⟩) (f.st.length + 1) cn)).ownsRow B e z u n' xs := fun hu hne =>
  own_but (own_but hu hB1 (fun k hk e2 => own_disj hu h.o1 hne k hk e2)) (But.set (X := fun k => k = g) (But.refl _ _) (p := ⟨g, 0, none⟩) rfl _) (fun k hk e => by have := own_low hu k hk; omega)
 refine ⟨_, ⟨some ⟨gn, 0, none⟩, cn, v.a2, v.c2, v.a3, v.c3, v.a4, v.c4⟩, ⟨?_, ?_, own' h.o2 (by decide), own' h.o3 (by decide), own' h.o4 (by decide), fun k => Iff.rfl, hgB, Nat.le_trans hle hB2.size, by have := h.l1; simp; omega, by have := h.l2; simp; omega, by have := h.l3; simp; omega, by have := h.l4; simp; omega, ?_, h.n2, h.n3⟩, hB2, ?_⟩
 ·have hk := (hB1.bk h.k hne2).set 0 (.slice (some ⟨gn, 0, none⟩) (f.st.length + 1) cn)
  simpa using hk
 ·have hw : scells (f.st ++ [n]) = scells f.st ++ [.string ⟨n.1.toArray⟩, .int .i64 n.2] := by simp [scells, scell, sv]
  have hl : (f.st ++ [n]).length = f.st.length + 1 := by simp
  rw [hw, hl]
  exact own_but ho (But.set (X := fun k => k = g) (But.refl _ _) (p := ⟨g, 0, none⟩) rfl _) (fun k hk e => by
   have := own_low ho k hk; omega)
 ·intro s hs
  rcases List.mem_append.1 hs with hs | hs
  ·exact h.n1 s hs
  ·rw [List.mem_singleton.1 hs]; exact hn
 ·intro k hk
  rcases hk with e | e | e | e | e
  ·exact .inl ((h.hR k).2 (.inl e))
  ·simp only [sl, Value.ownBlock, Option.some.injEq] at e
   subst e
   rcases hat with e | e
   ·exact .inl ((h.hR _).2 (.inr (.inl e)))
   ·exact .inr e
  ·exact .inl ((h.hR k).2 (.inr (.inr (.inl e))))
  ·exact .inl ((h.hR k).2 (.inr (.inr (.inr (.inl e)))))
  ·exact .inl ((h.hR k).2 (.inr (.inr (.inr (.inr e)))))
theorem Fo.more3 {V Vx V' : World} {B g m : Nat} {f : Dd.Fd} {R : Nat → Prop} {v : Fv} {n : Dd.Pa} {gn cn : Nat} (h : Fo V B g m f R v) (hn : n.name.length ≤ 1000000) (hx : Below V.heap.size V Vx)
  (ho : V'.ownsRow B 68 4 (.slice (some ⟨gn, 0, none⟩) (f.pa.length + 1) cn) (f.pa.length + 1) (pcells f.pa ++ [.string ⟨n.name.toArray⟩, .int .i64 n.south, .int .i64 n.west, .int .i64 n.east])) (hg : Vx.grownBy V' (sl v.a3 f.pa.length v.c3).ownBlock)
  (hat : (sl v.a3 f.pa.length v.c3).ownBlock = some gn ∨ V.heap.size ≤ gn) :
  ∃ R' v', Fo (V'.setCell ⟨g, 2, none⟩ (.slice (some ⟨gn, 0, none⟩) (f.pa.length + 1) cn)) B g (m + 1) { f with pa := f.pa ++ [n] } R' v' ∧ But R V (V'.setCell ⟨g, 2, none⟩ (.slice (some ⟨gn, 0, none⟩) (f.pa.length + 1) cn)) ∧ ∀ k, R' k → R k ∨ V.heap.size ≤ k := by
 have hgB := h.gB
 have hle := h.le
 have hgz : g < Vx.heap.size := by have := h.k.lt; have := hx.size; omega
 have hB1 : But (fun k => (sl v.a3 f.pa.length v.c3).ownBlock = some k) V V' := (But.of hx).trans (But.grown hg)
 have hne2 : ¬ (sl v.a3 f.pa.length v.c3).ownBlock = some g := fun e => by have := own_low h.o3 g e; omega
 have hB2 : But R V (V'.setCell ⟨g, 2, none⟩ (.slice (some ⟨gn, 0, none⟩) (f.pa.length + 1) cn)) :=
  (hB1.mono (fun k e => (h.hR k).2 (.inr (.inr (.inr (.inl e)))))).set (p := ⟨g, 2, none⟩) ((h.hR g).2 (.inl rfl)) _
 have own' : ∀ {e z n' : Nat} {u : Value} {xs : List Value}, V.ownsRow B e z u n' xs → e ≠ 68 → (V'.setCell ⟨g, 2, none⟩ (.slice (some ⟨gn, 0, none⟩) (f.pa.length + 1) cn)).ownsRow B e z u n' xs := fun hu hne =>
  own_but (own_but hu hB1 (fun k hk e2 => own_disj hu h.o3 hne k hk e2)) (But.set (X := fun k => k = g) (But.refl _ _) (p := ⟨g, 2, none⟩) rfl _) (fun k hk e => by have := own_low hu k hk; omega)
 refine ⟨_, ⟨v.a1, v.c1, v.a2, v.c2, some ⟨gn, 0, none⟩, cn, v.a4, v.c4⟩, ⟨?_, own' h.o1 (by decide), own' h.o2 (by decide), ?_, own' h.o4 (by decide), fun k => Iff.rfl, hgB, Nat.le_trans hle hB2.size, by have := h.l1; simp; omega, by have := h.l2; simp; omega, by have := h.l3; simp; omega, by have := h.l4; simp; omega, h.n1, h.n2, ?_⟩, hB2, ?_⟩
 ·have hk := (hB1.bk h.k hne2).set 2 (.slice (some ⟨gn, 0, none⟩) (f.pa.length + 1) cn)
  simpa using hk
 ·have hw : pcells (f.pa ++ [n]) = pcells f.pa ++ [.string ⟨n.name.toArray⟩, .int .i64 n.south, .int .i64 n.west, .int .i64 n.east] := by simp [pcells, pcell, sv]
  have hl : (f.pa ++ [n]).length = f.pa.length + 1 := by simp
  rw [hw, hl]
  exact own_but ho (But.set (X := fun k => k = g) (But.refl _ _) (p := ⟨g, 2, none⟩) rfl _) (fun k hk e => by
   have := own_low ho k hk; omega)
 ·intro s hs
  rcases List.mem_append.1 hs with hs | hs
  ·exact h.n3 s hs
  ·rw [List.mem_singleton.1 hs]; exact hn
 ·intro k hk
  rcases hk with e | e | e | e | e
  ·exact .inl ((h.hR k).2 (.inl e))
  ·exact .inl ((h.hR k).2 (.inr (.inl e)))
  ·exact .inl ((h.hR k).2 (.inr (.inr (.inl e))))
  ·simp only [sl, Value.ownBlock, Option.some.injEq] at e
   subst e
   rcases hat with e | e
   ·exact .inl ((h.hR _).2 (.inr (.inr (.inr (.inl e)))))
   ·exact .inr e
  ·exact .inl ((h.hR k).2 (.inr (.inr (.inr (.inr e)))))
theorem Fo.more4 {V Vx V' : World} {B g m : Nat} {f : Dd.Fd} {R : Nat → Prop} {v : Fv} {n : Int × Int} {gn cn : Nat} (h : Fo V B g m f R v) (hx : Below V.heap.size V Vx)
  (ho : V'.ownsRow B 116 2 (.slice (some ⟨gn, 0, none⟩) (f.va.length + 1) cn) (f.va.length + 1) (vcells f.va ++ [.int .i64 n.1, .int .i64 n.2])) (hg : Vx.grownBy V' (sl v.a4 f.va.length v.c4).ownBlock)
  (hat : (sl v.a4 f.va.length v.c4).ownBlock = some gn ∨ V.heap.size ≤ gn) :
  ∃ R' v', Fo (V'.setCell ⟨g, 3, none⟩ (.slice (some ⟨gn, 0, none⟩) (f.va.length + 1) cn)) B g (m + 1) { f with va := f.va ++ [n] } R' v' ∧ But R V (V'.setCell ⟨g, 3, none⟩ (.slice (some ⟨gn, 0, none⟩) (f.va.length + 1) cn)) ∧ ∀ k, R' k → R k ∨ V.heap.size ≤ k := by
 have hgB := h.gB
 have hle := h.le
 have hgz : g < Vx.heap.size := by have := h.k.lt; have := hx.size; omega
 have hB1 : But (fun k => (sl v.a4 f.va.length v.c4).ownBlock = some k) V V' := (But.of hx).trans (But.grown hg)
 have hne2 : ¬ (sl v.a4 f.va.length v.c4).ownBlock = some g := fun e => by have := own_low h.o4 g e; omega
 have hB2 : But R V (V'.setCell ⟨g, 3, none⟩ (.slice (some ⟨gn, 0, none⟩) (f.va.length + 1) cn)) :=
  (hB1.mono (fun k e => (h.hR k).2 (.inr (.inr (.inr (.inr e)))))).set (p := ⟨g, 3, none⟩) ((h.hR g).2 (.inl rfl)) _
 have own' : ∀ {e z n' : Nat} {u : Value} {xs : List Value}, V.ownsRow B e z u n' xs → e ≠ 116 → (V'.setCell ⟨g, 3, none⟩ (.slice (some ⟨gn, 0, none⟩) (f.va.length + 1) cn)).ownsRow B e z u n' xs := fun hu hne =>
  own_but (own_but hu hB1 (fun k hk e2 => own_disj hu h.o4 hne k hk e2)) (But.set (X := fun k => k = g) (But.refl _ _) (p := ⟨g, 3, none⟩) rfl _) (fun k hk e => by have := own_low hu k hk; omega)
 refine ⟨_, ⟨v.a1, v.c1, v.a2, v.c2, v.a3, v.c3, some ⟨gn, 0, none⟩, cn⟩, ⟨?_, own' h.o1 (by decide), own' h.o2 (by decide), own' h.o3 (by decide), ?_, fun k => Iff.rfl, hgB, Nat.le_trans hle hB2.size, by have := h.l1; simp; omega, by have := h.l2; simp; omega, by have := h.l3; simp; omega, by have := h.l4; simp; omega, h.n1, h.n2, h.n3⟩, hB2, ?_⟩
 ·have hk := (hB1.bk h.k hne2).set 3 (.slice (some ⟨gn, 0, none⟩) (f.va.length + 1) cn)
  simpa using hk
 ·have hw : vcells (f.va ++ [n]) = vcells f.va ++ [.int .i64 n.1, .int .i64 n.2] := by simp [vcells, vcell]
  have hl : (f.va ++ [n]).length = f.va.length + 1 := by simp
  rw [hw, hl]
  exact own_but ho (But.set (X := fun k => k = g) (But.refl _ _) (p := ⟨g, 3, none⟩) rfl _) (fun k hk e => by
   have := own_low ho k hk; omega)
 ·intro k hk
  rcases hk with e | e | e | e | e
  ·exact .inl ((h.hR k).2 (.inl e))
  ·exact .inl ((h.hR k).2 (.inr (.inl e)))
  ·exact .inl ((h.hR k).2 (.inr (.inr (.inl e))))
  ·exact .inl ((h.hR k).2 (.inr (.inr (.inr (.inl e)))))
  ·simp only [sl, Value.ownBlock, Option.some.injEq] at e
   subst e
   rcases hat with e | e
   ·exact .inl ((h.hR _).2 (.inr (.inr (.inr (.inr e)))))
   ·exact .inr e
end

section
open Go.RowKit
theorem infoStr : (Tryz.prog.info? 9).map (fun i => (i.zero, i.size, i.bytes)) = some (some (.string ⟨#[]⟩), 1, 16) := by kernel_rfl
def Fs2 (r : Int × Dd.Fd) (B g m b : Nat) (R : Nat → Prop) (V : World) (e : Ending) (V' : World) : Prop :=
 But (fun k => k = b ∨ R k) V V' ∧ ((r.1 = 0 ∧ e = .returned (.tuple #[]) ∧ ∃ R' v', Fo V' B g (m + 1) r.2 R' v' ∧ ∀ k, R' k → R k ∨ V.heap.size ≤ k) ∨ (r.1 ≠ 0 ∧ e = .panicked [pan r.1]))
theorem Fs2.no {r : Int × Dd.Fd} {B g m b : Nat} {R : Nat → Prop} {V V' : World} {n : Int} (hr : r.1 = n) (hn : n ≠ 0) (hb : But (fun k => k = b) V V') : Fs2 r B g m b R V (.panicked [pan n]) V' :=
 ⟨hb.mono (fun k h => .inl h), .inr ⟨by rw [hr]; exact hn, by rw [hr]⟩⟩
theorem Dd.limitM (f : Dd.Fd) (ws : List Cs.Bs) : Dd.limitL f ws = match Dd.nameW ws with | none => (4, f) | some p => match Dd.endW p.2 with | none => (4, f) | some _ => (0, { f with li := f.li ++ [p.1] }) := by
 rcases ws with _ | ⟨n, _ | ⟨y, r⟩⟩
 ·rfl
 ·rcases hn : Dd.nameF n <;> simp [Dd.limitL, Dd.nameW, Dd.endW, hn]
 ·rcases hn : Dd.nameF n <;> simp [Dd.limitL, Dd.nameW, Dd.endW, hn]
theorem readLimit_any (B g m b : Nat) (f : Dd.Fd) (R : Nat → Prop) (v : Fv) (ws : List Cs.Bs) (V : World) (hm : m ≤ 1000000) (hz : Wz V b ws) (hF : Fo V B g m f R v) (hbR : ¬ R b) (hbg : g < b) :
  Calls Tryz.prog 145 #[.pointer (some ⟨b, 0, none⟩), .pointer (some ⟨g, 0, none⟩)] V (Fs2 (Dd.limitL f ws) B g m b R V) := by
 obtain ⟨i0, hi0, hz0, hz1, hz2⟩ := info_parts infoStr
 have HM := jQ (Dd.limitM f ws)
 have HZ := jQ hz
 have HF := jQ hF
 have HB := jQ hbR
 obtain ⟨RR, hRR⟩ : ∃ r, Dd.limitL f ws = r := ⟨_, rfl⟩
 rw [hRR] at HM ⊢
 clear hz hF hbR hRR
 go_enter Tryz.func145, Tryz.ntmps145
 go_wp2_with fail
 rcases hs : Dd.nameW ws with _ | ⟨n, r⟩
 ·have HX := jQ (show RR.1 = 4 by rw [HM.o, hs])
  have HS := jQ hs
  clear hs
  refine (wname_any b ws _ HZ.o).mono ?_
  intro e w1 he
  obtain ⟨rfl, hb⟩ := he.none_ HS.o
  clear he
  go_wp2_with fail
  exact ⟨rfl, Fs2.no HX.o (by decide) hb⟩
 have hnl : n.length ≤ 1000000 := by
  rcases ws with _ | ⟨x, r'⟩
  ·cases hs
  ·rw [Dd.nameW] at hs
   split at hs
   ·simp only [Option.some.injEq, Prod.mk.injEq] at hs
    rw [← hs.1]
    exact HZ.o.hl x List.mem_cons_self
   ·cases hs
 have HS := jQ hs
 have HNL := jQ hnl
 clear hs hnl
 refine (wname_any b ws _ HZ.o).mono ?_
 intro e w1 he
 obtain ⟨rfl, hb, hz1'⟩ := he.some_ HS.o
 have HB1 := jQ hb
 have HZ1 := jQ hz1'
 have HF1 := jQ (HF.o.keep hb (fun k hk => by rw [show k = b from hk]; exact HB.o))
 clear he hb hz1'
 simp only [sv_def]
 go_wp2_with fail
 rcases hs : Dd.endW r with _ | ⟨u, r3⟩
 ·have HX := jQ (show RR.1 = 4 by rw [HM.o, HS.o]; simp only []; rw [hs])
  have HS2 := jQ hs
  clear hs
  refine (wend_any b r _ HZ1.o).mono ?_
  intro e w2 he
  obtain ⟨rfl, hb⟩ := he.none_ HS2.o
  clear he
  go_wp2_with fail
  exact ⟨rfl, Fs2.no HX.o (by decide) (HB1.o.trans hb)⟩
 have HX := jQ (show RR = (0, { f with li := f.li ++ [n] }) by rw [HM.o, HS.o]; simp only []; rw [hs])
 have HS2 := jQ hs
 clear hs
 refine (wend_any b r _ HZ1.o).mono ?_
 intro e w2 he
 obtain ⟨rfl, hb, _⟩ := he.some_ HS2.o
 have HB2 := jQ (HB1.o.trans hb)
 have hF2 := HF1.o.keep hb (fun k hk => by rw [show k = b from hk]; exact HB.o)
 have HF2 := jQ hF2
 have c1 := (hF2.k.cell 1).trans rfl
 have hl2 := hF2.l2
 have hle := hF2.le
 have ho := hF2.o2
 have hlt := hF2.k.lt
 have hgB := hF2.gB
 have HK2 := jQ hF2.k
 have HNG := jQ (show ¬ (Value.slice v.a2 f.li.length v.c2).ownBlock = some g from fun e => by have := own_low hF2.o2 g e; omega)
 clear he hb hF2
 simp only [uv, sl_def] at ho ⊢
 go_wp2_with (refine wpList_append_lies _ rfl (.tmp 13) (.tmp 15) 23 rfl B 9 i0 _ 1 16 Tryz.underlying23 hi0 hz0 hz1 hz2 rfl (by omega) (.slice v.a2 f.li.length v.c2) f.li.length (wcells f.li) rfl (ho.alloc _) ⟨w2.heap.size, 0, none⟩ 1 1 [.string ⟨n.toArray⟩] rfl rfl (World.news_of_block (cs := #[.string ⟨n.toArray⟩]) (t := 9) (fr := (0, 0)) (World.alloc_heap_new w2 _)) (by simp [Value.oneCell']) (by omega) (by unfold maxLen; omega) (by omega) (by simp; omega) (w2.heap.size + 1) (by simp) ?_; intro gn cn w4 hown hgrow hat hlt4; have hk4 := (But.grown hgrow).bk (HK2.o.alloc _) HNG.o; have q1 := (hk4.cell 1).trans rfl; have q2 := hk4.frozen 1; have q3 := hk4.lt)
 obtain ⟨R', v', h1, h2, h3⟩ := HF2.o.more2 HNL.o ((Below.refl _ _).alloc (Nat.le_refl _) _) hown hgrow (by rcases hat with e | e; exact .inl e; exact .inr (by omega))
 go_end0
 have hb2 := HB2.o
 refine ⟨(hb2.mono (fun k h => .inl h)).trans (h2.mono (fun k h => .inr h)), .inl ⟨by rw [HX.o], rfl, R', v', by rw [HX.o]; exact h1, fun k hk => ?_⟩⟩
 rcases h3 k hk with e | e
 ·exact .inl e
 ·exact .inr (Nat.le_trans hb2.size e)
end

section
open Go.RowKit
theorem Bk.drewB' {w : World} {g : Nat} {t : TypeId} {cs : Array Value} (h : Bk w g t cs) : Bk w.drew g t cs := h
theorem Dd.stationM (f : Dd.Fd) (ws : List Cs.Bs) : Dd.stationL f ws = match Dd.nameW ws with | none => (4, f) | some p => match Dd.nnW p.2 with | none => (4, f) | some q => match Dd.endW q.2 with | none => (4, f) | some _ => (0, { f with st := f.st ++ [(p.1, q.1)] }) := by
 rcases ws with _ | ⟨n, _ | ⟨y, _ | ⟨z, r⟩⟩⟩
 ·rfl
 ·rcases hn : Dd.nameF n <;> simp [Dd.stationL, Dd.nameW, Dd.nnW, hn]
 ·rcases hn : Dd.nameF n <;> rcases hy : Dd.nnF y <;> simp [Dd.stationL, Dd.nameW, Dd.nnW, Dd.endW, hn, hy]
 ·rcases hn : Dd.nameF n <;> rcases hy : Dd.nnF y <;> simp [Dd.stationL, Dd.nameW, Dd.nnW, Dd.endW, hn, hy]
theorem Dd.variationM (f : Dd.Fd) (ws : List Cs.Bs) : Dd.variationL f ws = match Dd.nnW ws with | none => (4, f) | some p => match Dd.sgnW p.2 with | none => (4, f) | some q => match Dd.endW q.2 with | none => (4, f) | some _ => (0, { f with va := f.va ++ [(p.1, q.1)] }) := by
 rcases ws with _ | ⟨n, _ | ⟨y, _ | ⟨z, r⟩⟩⟩
 ·rfl
 ·rcases hn : Dd.nnF n <;> simp [Dd.variationL, Dd.sgnW, Dd.nnW, hn]
 ·rcases hn : Dd.nnF n <;> rcases hy : Dd.sgnF y <;> simp [Dd.variationL, Dd.sgnW, Dd.nnW, Dd.endW, hn, hy]
 ·rcases hn : Dd.nnF n <;> rcases hy : Dd.sgnF y <;> simp [Dd.variationL, Dd.sgnW, Dd.nnW, Dd.endW, hn, hy]
theorem infoSt : (Tryz.prog.info? 66).map (fun i => (i.zero, i.size, i.bytes)) = some (some (.agg #[.string ⟨#[]⟩, .int .i64 0]), 2, 24) := by kernel_rfl
theorem infoVa : (Tryz.prog.info? 116).map (fun i => (i.zero, i.size, i.bytes)) = some (some (.agg #[.int .i64 0, .int .i64 0]), 2, 16) := by kernel_rfl
theorem readStation_any (B g m b : Nat) (f : Dd.Fd) (R : Nat → Prop) (v : Fv) (ws : List Cs.Bs) (V : World) (hm : m ≤ 1000000) (hE : Env V) (hz : Wz V b ws) (hF : Fo V B g m f R v) (hbR : ¬ R b) (hbg : g < b) :
  Calls Tryz.prog 144 #[.pointer (some ⟨b, 0, none⟩), .pointer (some ⟨g, 0, none⟩)] V (Fs2 (Dd.stationL f ws) B g m b R V) := by
 obtain ⟨i0, hi0, hz0, hz1, hz2⟩ := info_parts infoSt
 have h9 := hz.g9
 have HM := jQ (Dd.stationM f ws)
 have HZ := jQ hz
 have HF := jQ hF
 have HE := jQ hE
 have HB := jQ hbR
 obtain ⟨RR, hRR⟩ : ∃ r, Dd.stationL f ws = r := ⟨_, rfl⟩
 rw [hRR] at HM ⊢
 clear hz hF hbR hRR hE
 go_enter Tryz.func144, Tryz.ntmps144
 go_wp2_with fail
 rcases hs : Dd.nameW ws with _ | ⟨x1, r1⟩
 ·have HX := jQ (show RR.1 = 4 by rw [HM.o, hs])
  have HS := jQ hs
  clear hs
  refine (wname_any b ws _ HZ.o).mono ?_
  intro e w1 he
  obtain ⟨rfl, hb⟩ := he.none_ HS.o
  clear he
  go_wp2_with fail
  exact ⟨rfl, Fs2.no HX.o (by decide) hb⟩
 have hnl : x1.length ≤ 1000000 := by
  rcases ws with _ | ⟨x, r'⟩
  ·cases hs
  ·rw [Dd.nameW] at hs
   split at hs
   ·simp only [Option.some.injEq, Prod.mk.injEq] at hs
    rw [← hs.1]
    exact HZ.o.hl x List.mem_cons_self
   ·cases hs
 have HNL := jQ hnl
 clear hnl
 have HS := jQ hs
 clear hs
 refine (wname_any b ws _ HZ.o).mono ?_
 intro e w1 he
 obtain ⟨rfl, hb, hz1'⟩ := he.some_ HS.o
 have HB1 := jQ hb
 have HZ1 := jQ hz1'
 have HE1 := jQ (HE.o.but1 hb h9)
 have HF1 := jQ (HF.o.keep hb (fun k hk => by rw [show k = b from hk]; exact HB.o))
 clear he hb hz1'
 simp only [sv_def]
 go_wp2_with fail
 rcases hs : Dd.nnW r1 with _ | ⟨x2, r2⟩
 ·have HX := jQ (show RR.1 = 4 by rw [HM.o, HS.o]; simp only []; rw [hs])
  have HS2 := jQ hs
  clear hs
  refine (number_any b r1 _ HE1.o HZ1.o).mono ?_
  intro e w2 he
  obtain ⟨rfl, hb⟩ := he.none_ HS2.o
  clear he
  go_wp2_with fail
  exact ⟨rfl, Fs2.no HX.o (by decide) (HB1.o.trans hb)⟩
 have HS2 := jQ hs
 clear hs
 refine (number_any b r1 _ HE1.o HZ1.o).mono ?_
 intro e w2 he
 obtain ⟨rfl, hb, hz2'⟩ := he.some_ HS2.o
 have hbl := hz2'.lt
 have hbn := (Below.refl w2.heap.size w2).alloc (Nat.le_refl _) (.cells #[.string ⟨x1.toArray⟩, .int .i64 x2] 66)
 have HB2 := jQ ((HB1.o.trans hb).trans (But.of hbn))
 have HZ2 := jQ (hz2'.below hbn)
 have HF2 := jQ ((HF1.o.keep hb (fun k hk => by rw [show k = b from hk]; exact HB.o)).keep (X := fun _ => False) (But.of hbn) (fun k hk => hk.elim))
 have HK2 := jQ (Bk.new w2 66 #[.string ⟨x1.toArray⟩, .int .i64 x2])
 have hnb : ¬ w2.heap.size = b := by omega
 clear he hb hz2' hbl hbn
 simp only [zv]
 go_wp2_with fail
 rcases hs : Dd.endW r2 with _ | ⟨u, r3⟩
 ·have HX := jQ (show RR.1 = 4 by rw [HM.o, HS.o]; simp only []; rw [HS2.o]; simp only []; rw [hs])
  have HS3 := jQ hs
  clear hs
  refine (wend_any b r2 _ HZ2.o).mono ?_
  intro e w3 he
  obtain ⟨rfl, hb⟩ := he.none_ HS3.o
  clear he
  go_wp2_with fail
  exact ⟨rfl, Fs2.no HX.o (by decide) (HB2.o.trans hb)⟩
 have HX := jQ (show RR = (0, { f with st := f.st ++ [(x1, x2)] }) by rw [HM.o, HS.o]; simp only []; rw [HS2.o]; simp only []; rw [hs])
 have HS3 := jQ hs
 clear hs
 refine (wend_any b r2 _ HZ2.o).mono ?_
 intro e w3 he
 obtain ⟨rfl, hb, _⟩ := he.some_ HS3.o
 have HB3 := jQ (HB2.o.trans hb)
 have hF3 := HF2.o.keep hb (fun k hk => by rw [show k = b from hk]; exact HB.o)
 have hk3 := hb.bk HK2.o hnb
 have HF3 := jQ hF3
 have c1 := (hF3.k.cell 0).trans rfl
 have y0 := (hk3.cell 0).trans rfl
 have y1 := (hk3.cell 1).trans rfl
 have hl2 := hF3.l1
 have hle := hF3.le
 have ho := hF3.o1
 have hlt := hF3.k.lt
 have hgB := hF3.gB
 have HK3 := jQ hF3.k
 have hcw : ∀ o, (w3.alloc o).cell? ⟨g, 0, none⟩ = some (.slice v.a1 f.st.length v.c1) := fun o => (World.cell?_of_block (Below.heap_alloc _ _ _ hlt)).trans c1
 have HNG := jQ (show ¬ (Value.slice v.a1 f.st.length v.c1).ownBlock = some g from fun e => by have := own_low hF3.o1 g e; omega)
 clear he hb hF3 hk3
 simp only [uv, sl_def] at ho ⊢
 go_upto_region 2 with fail
 go_region_law (refine step_append_lies _ (by rfl) _ _ _ (by rfl) B 66 i0 _ 2 24 Tryz.underlying22 hi0 hz0 hz1 hz2 rfl (by omega) (.slice v.a1 f.st.length v.c1) f.st.length (scells f.st) (by rfl) ((ho.alloc _).drew) ⟨w3.heap.size, 0, none⟩ 1 1 [.string ⟨x1.toArray⟩, .int .i64 x2] (by rfl) (by rfl) (World.news_of_block (cs := #[.string ⟨x1.toArray⟩, .int .i64 x2]) (t := 66) (fr := (0, 0)) (World.alloc_heap_new w3 _)) (by simp [Value.oneCell']) (by omega) (by unfold maxLen; omega) (by omega) (by simp; omega) (w3.heap.size + 1) (by simp) ?_; intro gn cn w4 hown hgrow hat hlt4; have hk4 := (But.grown hgrow).bk ((HK3.o.alloc (.cells #[.string ⟨x1.toArray⟩, .int .i64 x2] 66)).drewB') HNG.o; have q1 := (hk4.cell 0).trans rfl; have q2 := hk4.frozen 0; have q3 := hk4.lt)
 all_goals
  obtain ⟨R', v', h1, h2, h3⟩ := HF3.o.more1 (n := (x1, x2)) HNL.o (((Below.refl w3.heap.size w3).alloc (Nat.le_refl _) (.cells #[.string ⟨x1.toArray⟩, .int .i64 x2] 66)).drew) hown hgrow (by rcases hat with e | e; exact .inl e; exact .inr (by omega))
  have H1 := jQ h1
  have H2 := jQ h2
  have H3 := jQ h3
  clear h1 h2 h3 hk4 hown hgrow hat hlt4
  go_wp2_with fail
  go_end0
  have hb3 := HB3.o
  refine ⟨(hb3.mono (fun k h => .inl h)).trans (H2.o.mono (fun k h => .inr h)), .inl ⟨by rw [HX.o], rfl, R', v', by rw [HX.o]; exact H1.o, fun k hk => ?_⟩⟩
  rcases H3.o k hk with e | e
  ·exact .inl e
  ·exact .inr (Nat.le_trans hb3.size e)
theorem readVariation_any (B g m b : Nat) (f : Dd.Fd) (R : Nat → Prop) (v : Fv) (ws : List Cs.Bs) (V : World) (hm : m ≤ 1000000) (hE : Env V) (hz : Wz V b ws) (hF : Fo V B g m f R v) (hbR : ¬ R b) (hbg : g < b) :
  Calls Tryz.prog 147 #[.pointer (some ⟨b, 0, none⟩), .pointer (some ⟨g, 0, none⟩)] V (Fs2 (Dd.variationL f ws) B g m b R V) := by
 obtain ⟨i0, hi0, hz0, hz1, hz2⟩ := info_parts infoVa
 have h9 := hz.g9
 have HM := jQ (Dd.variationM f ws)
 have HZ := jQ hz
 have HF := jQ hF
 have HE := jQ hE
 have HB := jQ hbR
 obtain ⟨RR, hRR⟩ : ∃ r, Dd.variationL f ws = r := ⟨_, rfl⟩
 rw [hRR] at HM ⊢
 clear hz hF hbR hRR hE
 go_enter Tryz.func147, Tryz.ntmps147
 go_wp2_with fail
 rcases hs : Dd.nnW ws with _ | ⟨x1, r1⟩
 ·have HX := jQ (show RR.1 = 4 by rw [HM.o, hs])
  have HS := jQ hs
  clear hs
  refine (number_any b ws _ HE.o HZ.o).mono ?_
  intro e w1 he
  obtain ⟨rfl, hb⟩ := he.none_ HS.o
  clear he
  go_wp2_with fail
  exact ⟨rfl, Fs2.no HX.o (by decide) hb⟩
 have HS := jQ hs
 clear hs
 refine (number_any b ws _ HE.o HZ.o).mono ?_
 intro e w1 he
 obtain ⟨rfl, hb, hz1'⟩ := he.some_ HS.o
 have HB1 := jQ hb
 have HZ1 := jQ hz1'
 have HE1 := jQ (HE.o.but1 hb h9)
 have HF1 := jQ (HF.o.keep hb (fun k hk => by rw [show k = b from hk]; exact HB.o))
 clear he hb hz1'
 simp only [zv]
 go_wp2_with fail
 rcases hs : Dd.sgnW r1 with _ | ⟨x2, r2⟩
 ·have HX := jQ (show RR.1 = 4 by rw [HM.o, HS.o]; simp only []; rw [hs])
  have HS2 := jQ hs
  clear hs
  refine (signed_any b r1 _ HE1.o HZ1.o).mono ?_
  intro e w2 he
  obtain ⟨rfl, hb⟩ := he.none_ HS2.o
  clear he
  go_wp2_with fail
  exact ⟨rfl, Fs2.no HX.o (by decide) (HB1.o.trans hb)⟩
 have HS2 := jQ hs
 clear hs
 refine (signed_any b r1 _ HE1.o HZ1.o).mono ?_
 intro e w2 he
 obtain ⟨rfl, hb, hz2'⟩ := he.some_ HS2.o
 have hbl := hz2'.lt
 have hbn := (Below.refl w2.heap.size w2).alloc (Nat.le_refl _) (.cells #[.int .i64 x1, .int .i64 x2] 116)
 have HB2 := jQ ((HB1.o.trans hb).trans (But.of hbn))
 have HZ2 := jQ (hz2'.below hbn)
 have HF2 := jQ ((HF1.o.keep hb (fun k hk => by rw [show k = b from hk]; exact HB.o)).keep (X := fun _ => False) (But.of hbn) (fun k hk => hk.elim))
 have HK2 := jQ (Bk.new w2 116 #[.int .i64 x1, .int .i64 x2])
 have hnb : ¬ w2.heap.size = b := by omega
 clear he hb hz2' hbl hbn
 simp only [zv]
 go_wp2_with fail
 rcases hs : Dd.endW r2 with _ | ⟨u, r3⟩
 ·have HX := jQ (show RR.1 = 4 by rw [HM.o, HS.o]; simp only []; rw [HS2.o]; simp only []; rw [hs])
  have HS3 := jQ hs
  clear hs
  refine (wend_any b r2 _ HZ2.o).mono ?_
  intro e w3 he
  obtain ⟨rfl, hb⟩ := he.none_ HS3.o
  clear he
  go_wp2_with fail
  exact ⟨rfl, Fs2.no HX.o (by decide) (HB2.o.trans hb)⟩
 have HX := jQ (show RR = (0, { f with va := f.va ++ [(x1, x2)] }) by rw [HM.o, HS.o]; simp only []; rw [HS2.o]; simp only []; rw [hs])
 have HS3 := jQ hs
 clear hs
 refine (wend_any b r2 _ HZ2.o).mono ?_
 intro e w3 he
 obtain ⟨rfl, hb, _⟩ := he.some_ HS3.o
 have HB3 := jQ (HB2.o.trans hb)
 have hF3 := HF2.o.keep hb (fun k hk => by rw [show k = b from hk]; exact HB.o)
 have hk3 := hb.bk HK2.o hnb
 have HF3 := jQ hF3
 have c1 := (hF3.k.cell 3).trans rfl
 have y0 := (hk3.cell 0).trans rfl
 have y1 := (hk3.cell 1).trans rfl
 have hl2 := hF3.l4
 have hle := hF3.le
 have ho := hF3.o4
 have hlt := hF3.k.lt
 have hgB := hF3.gB
 have HK3 := jQ hF3.k
 have hcw : ∀ o, (w3.alloc o).cell? ⟨g, 3, none⟩ = some (.slice v.a4 f.va.length v.c4) := fun o => (World.cell?_of_block (Below.heap_alloc _ _ _ hlt)).trans c1
 have HNG := jQ (show ¬ (Value.slice v.a4 f.va.length v.c4).ownBlock = some g from fun e => by have := own_low hF3.o4 g e; omega)
 clear he hb hF3 hk3
 simp only [uv, sl_def] at ho ⊢
 go_upto_region 2 with fail
 go_region_law (refine step_append_lies _ (by rfl) _ _ _ (by rfl) B 116 i0 _ 2 16 Tryz.underlying25 hi0 hz0 hz1 hz2 rfl (by omega) (.slice v.a4 f.va.length v.c4) f.va.length (vcells f.va) (by rfl) ((ho.alloc _).drew) ⟨w3.heap.size, 0, none⟩ 1 1 [.int .i64 x1, .int .i64 x2] (by rfl) (by rfl) (World.news_of_block (cs := #[.int .i64 x1, .int .i64 x2]) (t := 116) (fr := (0, 0)) (World.alloc_heap_new w3 _)) (by simp [Value.oneCell']) (by omega) (by unfold maxLen; omega) (by omega) (by simp; omega) (w3.heap.size + 1) (by simp) ?_; intro gn cn w4 hown hgrow hat hlt4; have hk4 := (But.grown hgrow).bk ((HK3.o.alloc (.cells #[.int .i64 x1, .int .i64 x2] 116)).drewB') HNG.o; have q1 := (hk4.cell 3).trans rfl; have q2 := hk4.frozen 3; have q3 := hk4.lt)
 all_goals
  obtain ⟨R', v', h1, h2, h3⟩ := HF3.o.more4 (n := (x1, x2)) (((Below.refl w3.heap.size w3).alloc (Nat.le_refl _) (.cells #[.int .i64 x1, .int .i64 x2] 116)).drew) hown hgrow (by rcases hat with e | e; exact .inl e; exact .inr (by omega))
  have H1 := jQ h1
  have H2 := jQ h2
  have H3 := jQ h3
  clear h1 h2 h3 hk4 hown hgrow hat hlt4
  go_wp2_with fail
  go_end0
  have hb3 := HB3.o
  refine ⟨(hb3.mono (fun k h => .inl h)).trans (H2.o.mono (fun k h => .inr h)), .inl ⟨by rw [HX.o], rfl, R', v', by rw [HX.o]; exact H1.o, fun k hk => ?_⟩⟩
  rcases H3.o k hk with e | e
  ·exact .inl e
  ·exact .inr (Nat.le_trans hb3.size e)
end
end Go.Proofs.YtccikcpcfdjobaaGreatDoor
