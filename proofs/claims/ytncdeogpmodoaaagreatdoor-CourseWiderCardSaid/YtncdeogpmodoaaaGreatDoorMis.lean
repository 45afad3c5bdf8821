/-
  The five conditions, made; misfit of an aim; misfit of course.
-/
import Derived.Test.YtncdeogpmodoaaaGreatDoorCond
import Derived.Laws.EntriesVeiled
set_option linter.unusedVariables false
set_option linter.unusedSimpArgs false
namespace Go.Proofs.YtncdeogpmodoaaaGreatDoor
open Go.RowKit
set_option maxRecDepth 100000

namespace Cs
/-- The number of the first that is false, counted from n + 1; 0 where none is. -/
def firstNo : List Bool → Nat → Int
  | [], _ => 0
  | b :: r, n => if b then firstNo r (n + 1) else n + 1
/-- What the five conditions say. -/
def says (a : Aim) (dx dy : Int) : List Bool := [cond0 a, cond1 a dx dy, cond2 a dx dy, decide (sq dx dy ≤ a.far * a.far), (decide (90 < a.high) && decide (a.low < 90)) || decide (a.near * a.near ≤ sq dx dy)]
theorem misA_says (a : Aim) (dx dy : Int) : misA a dx dy = firstNo (says a dx dy) 0 := by
  unfold misA says
  rw [show cond3 a dx dy = decide (sq dx dy ≤ a.far * a.far) from rfl, show cond4 a dx dy = ((decide (90 < a.high) && decide (a.low < 90)) || decide (a.near * a.near ≤ sq dx dy)) from rfl]
  generalize decide (sq dx dy ≤ a.far * a.far) = c3
  generalize ((decide (90 < a.high) && decide (a.low < 90)) || decide (a.near * a.near ≤ sq dx dy)) = c4
  rcases cond0 a with _ | _ <;> rcases cond1 a dx dy with _ | _ <;> rcases cond2 a dx dy with _ | _ <;> rcases c3 with _ | _ <;> rcases c4 with _ | _ <;> rfl
end Cs

/-- The closures over the blocks of an aim, a step and its square. -/
def conds (ba bx by_ bs : Nat) : Array Value := #[.func (.func 107) #[] #[.pointer (some ⟨ba, 0, none⟩)], .func (.func 108) #[] #[.pointer (some ⟨ba, 0, none⟩), .pointer (some ⟨by_, 0, none⟩), .pointer (some ⟨bx, 0, none⟩)],
  .func (.func 109) #[] #[.pointer (some ⟨ba, 0, none⟩), .pointer (some ⟨by_, 0, none⟩), .pointer (some ⟨bx, 0, none⟩)], .func (.func 110) #[] #[.pointer (some ⟨bs, 0, none⟩), .pointer (some ⟨ba, 0, none⟩)],
  .func (.func 111) #[] #[.pointer (some ⟨ba, 0, none⟩), .pointer (some ⟨bs, 0, none⟩)]]

set_option maxHeartbeats 2000000 in
theorem conditions_any (a : Cs.Aim) (dx dy : Int) (w : World) (hx : -100000 ≤ dx ∧ dx ≤ 100000) (hy : -100000 ≤ dy ∧ dy ≤ 100000) :
    Calls Tryz.prog 94 #[aval a, .int .i64 dx, .int .i64 dy] w fun e w' => ∃ ba bx by_ bs, e = .returned (.agg (conds ba bx by_ bs)) ∧ Bk w' ba 83 (acell a) ∧ Bk w' bx 3 #[.int .i64 dx] ∧ Bk w' by_ 3 #[.int .i64 dy] ∧
      Bk w' bs 3 #[.int .i64 (Cs.sq dx dy)] ∧ Below w.heap.size w w' := by
  have hmf : ∀ (fn : Fn) (first cap : Array Value) (w : World), (Instr.makeFunc fn first cap).run Tryz.prog w = .ok (.func fn first cap) w := fun _ _ _ _ => rfl
  obtain ⟨al, ah, an, af⟩ := a
  obtain ⟨x0, x1⟩ := Cs.sq_range (x := dx) (m := 100000) hx.1 hx.2
  obtain ⟨y0, y1⟩ := Cs.sq_range (x := dy) (m := 100000) hy.1 hy.2
  have hsq : Cs.sq dx dy = 100000000 * (dx * dx + dy * dy) := rfl
  rw [hsq]
  clear hsq hx hy
  have HFIN := Lib.hid (show ∀ (w' : World) (s : Int), w' = (((((w.alloc (.cells #[.int .i64 al, .int .i64 ah, .int .i64 an, .int .i64 af] 83)).alloc (.cells #[.int .i64 dx] 3)).alloc (.cells #[.int .i64 dy] 3)).alloc
      (.cells (conds w.heap.size (w.heap.size + 1) (w.heap.size + 1 + 1) (w.heap.size + 1 + 1 + 1 + 1)) 112)).alloc (.cells #[.int .i64 s] 3)) →
      Bk w' w.heap.size 83 #[.int .i64 al, .int .i64 ah, .int .i64 an, .int .i64 af] ∧ Bk w' (w.heap.size + 1) 3 #[.int .i64 dx] ∧ Bk w' (w.heap.size + 1 + 1) 3 #[.int .i64 dy] ∧
        Bk w' (w.heap.size + 1 + 1 + 1 + 1) 3 #[.int .i64 s] ∧ Below w.heap.size w w' ∧ Bk w' (w.heap.size + 1 + 1 + 1) 112 (conds w.heap.size (w.heap.size + 1) (w.heap.size + 1 + 1) (w.heap.size + 1 + 1 + 1 + 1)) by
    rintro w' s rfl
    refine ⟨((((Bk.new w _ _).alloc _).alloc _).alloc _).alloc _, ?_, ?_, ?_, ?_, ?_⟩
    · have := ((((Bk.new (w.alloc (.cells #[.int .i64 al, .int .i64 ah, .int .i64 an, .int .i64 af] 83)) 3 #[.int .i64 dx]).alloc (.cells #[.int .i64 dy] 3)).alloc
        (.cells (conds w.heap.size (w.heap.size + 1) (w.heap.size + 1 + 1) (w.heap.size + 1 + 1 + 1 + 1)) 112)).alloc (.cells #[.int .i64 s] 3))
      simpa only [World.size_alloc] using this
    · have := (((Bk.new ((w.alloc (.cells #[.int .i64 al, .int .i64 ah, .int .i64 an, .int .i64 af] 83)).alloc (.cells #[.int .i64 dx] 3)) 3 #[.int .i64 dy]).alloc
        (.cells (conds w.heap.size (w.heap.size + 1) (w.heap.size + 1 + 1) (w.heap.size + 1 + 1 + 1 + 1)) 112)).alloc (.cells #[.int .i64 s] 3))
      simpa only [World.size_alloc] using this
    · have := (Bk.new ((((w.alloc (.cells #[.int .i64 al, .int .i64 ah, .int .i64 an, .int .i64 af] 83)).alloc (.cells #[.int .i64 dx] 3)).alloc (.cells #[.int .i64 dy] 3)).alloc
        (.cells (conds w.heap.size (w.heap.size + 1) (w.heap.size + 1 + 1) (w.heap.size + 1 + 1 + 1 + 1)) 112)) 3 #[.int .i64 s])
      simpa only [World.size_alloc] using this
    · exact (((((Below.refl _ _).alloc (Nat.le_refl _) _).alloc (by simp) _).alloc (by simp; omega) _).alloc (by simp; omega) _).alloc (by simp; omega) _
    · have := ((Bk.new (((w.alloc (.cells #[.int .i64 al, .int .i64 ah, .int .i64 an, .int .i64 af] 83)).alloc (.cells #[.int .i64 dx] 3)).alloc (.cells #[.int .i64 dy] 3))
        112 (conds w.heap.size (w.heap.size + 1) (w.heap.size + 1 + 1) (w.heap.size + 1 + 1 + 1 + 1))).alloc (.cells #[.int .i64 s] 3))
      simpa only [World.size_alloc] using this)
  show Calls Tryz.prog 94 #[.agg #[.int .i64 al, .int .i64 ah, .int .i64 an, .int .i64 af], .int .i64 dx, .int .i64 dy] w _
  go_enter Tryz.func94, Tryz.ntmps94
  go_wp2_with fail
  obtain ⟨k1, k2, k3, k4, k5, k6⟩ := HFIN.out _ _ rfl
  exact bodyPost_ret (v := .agg (conds w.heap.size (w.heap.size + 1) (w.heap.size + 1 + 1) (w.heap.size + 1 + 1 + 1 + 1)))
    (results_cell_row rfl _ _ (w.heap.size + 1 + 1 + 1) 112 _ (0, 0) (.array 5 23) rfl k6 (by kernel_rfl) rfl (by kernel_rfl)) rfl ⟨_, _, _, _, rfl, k1, k2, k3, k4, k5⟩
theorem index_cond0 (ba bx by_ bs : Nat) (w : World) : (Instr.index 112 (.agg (conds ba bx by_ bs)) (.int .i64 0)).run Tryz.prog w = .ok (.func (.func 107) #[] #[.pointer (some ⟨ba, 0, none⟩)]) w := by kernel_rfl
theorem index_cond1 (ba bx by_ bs : Nat) (w : World) : (Instr.index 112 (.agg (conds ba bx by_ bs)) (.int .i64 1)).run Tryz.prog w = .ok (.func (.func 108) #[] #[.pointer (some ⟨ba, 0, none⟩), .pointer (some ⟨by_, 0, none⟩), .pointer (some ⟨bx, 0, none⟩)]) w := by kernel_rfl
theorem index_cond2 (ba bx by_ bs : Nat) (w : World) : (Instr.index 112 (.agg (conds ba bx by_ bs)) (.int .i64 2)).run Tryz.prog w = .ok (.func (.func 109) #[] #[.pointer (some ⟨ba, 0, none⟩), .pointer (some ⟨by_, 0, none⟩), .pointer (some ⟨bx, 0, none⟩)]) w := by kernel_rfl
theorem index_cond3 (ba bx by_ bs : Nat) (w : World) : (Instr.index 112 (.agg (conds ba bx by_ bs)) (.int .i64 3)).run Tryz.prog w = .ok (.func (.func 110) #[] #[.pointer (some ⟨bs, 0, none⟩), .pointer (some ⟨ba, 0, none⟩)]) w := by kernel_rfl
theorem index_cond4 (ba bx by_ bs : Nat) (w : World) : (Instr.index 112 (.agg (conds ba bx by_ bs)) (.int .i64 4)).run Tryz.prog w = .ok (.func (.func 111) #[] #[.pointer (some ⟨ba, 0, none⟩), .pointer (some ⟨bs, 0, none⟩)]) w := by kernel_rfl

set_option maxHeartbeats 4000000 in
theorem misA_any (a : Cs.Aim) (dx dy : Int) (w : World) (hs : Sn w) (hx : -100000 ≤ dx ∧ dx ≤ 100000) (hy : -100000 ≤ dy ∧ dy ≤ 100000) (hf : 0 ≤ a.far * a.far ∧ a.far * a.far ≤ 1144900000000000000) (hn : 0 ≤ a.near * a.near ∧ a.near * a.near ≤ 1144900000000000000) :
    Calls Tryz.prog 83 #[aval a, .int .i64 dx, .int .i64 dy] w fun e w' => e = .returned (.int .u8 (Cs.misA a dx dy)) ∧ Below w.heap.size w w' := by
  rw [Cs.misA_says]
  have HC0 := Lib.hid fun ba w (ka : Bk w ba 83 (acell a)) => cond0_any a ba w ka
  have HC1 := Lib.hid fun ba bx by_ w h1 h2 h3 h4 => cond1_any a dx dy ba bx by_ w h1 h2 h3 h4 hx hy
  have HC2 := Lib.hid fun ba bx by_ w h1 h2 h3 h4 => cond2_any a dx dy ba bx by_ w h1 h2 h3 h4 hx hy
  have HC3 := Lib.hid fun ba bs w h1 h2 => cond3_any a (Cs.sq dx dy) ba bs w h1 h2 hf
  have HC4 := Lib.hid fun ba bs w h1 h2 => cond4_any a (Cs.sq dx dy) ba bs w h1 h2 hn
  have hco := fun w => conditions_any a dx dy w hx hy
  have hsy : Cs.says a dx dy = [Cs.cond0 a, Cs.cond1 a dx dy, Cs.cond2 a dx dy, decide (Cs.sq dx dy ≤ a.far * a.far), (decide (90 < a.high) && decide (a.low < 90)) || decide (a.near * a.near ≤ Cs.sq dx dy)] := rfl
  rw [hsy]
  obtain ⟨c0, h0⟩ : ∃ q, Cs.cond0 a = q := ⟨_, rfl⟩
  obtain ⟨c1, h1⟩ : ∃ q, Cs.cond1 a dx dy = q := ⟨_, rfl⟩
  obtain ⟨c2, h2⟩ : ∃ q, Cs.cond2 a dx dy = q := ⟨_, rfl⟩
  obtain ⟨c3, h3⟩ : ∃ q, decide (Cs.sq dx dy ≤ a.far * a.far) = q := ⟨_, rfl⟩
  obtain ⟨c4, h4⟩ : ∃ q, ((decide (90 < a.high) && decide (a.low < 90)) || decide (a.near * a.near ≤ Cs.sq dx dy)) = q := ⟨_, rfl⟩
  rw [h0] at HC0
  rw [h1] at HC1
  rw [h2] at HC2
  rw [h3] at HC3
  rw [h4] at HC4
  rw [h0, h1, h2, h3, h4]
  clear hsy h0 h1 h2 h3 h4 hf hn
  obtain ⟨r, hr⟩ : ∃ r, Cs.firstNo [c0, c1, c2, c3, c4] 0 = r := ⟨_, rfl⟩
  rw [hr]
  obtain ⟨sq, hsq⟩ : ∃ q, Cs.sq dx dy = q := ⟨_, rfl⟩
  simp only [hsq] at hco HC3 HC4
  clear hsq
  obtain ⟨C, hC⟩ : ∃ C, acell a = C := ⟨_, rfl⟩
  rw [hC] at HC0 HC1 HC2 HC3 HC4
  simp only [hC] at hco
  have hav : aval a = .agg C := by rw [← hC]; rfl
  rw [hav] at hco ⊢
  have HR := Lib.hid hr
  obtain ⟨al, ah, an, af⟩ := a
  obtain rfl : #[Value.int .i64 al, .int .i64 ah, .int .i64 an, .int .i64 af] = C := hC
  have hB0 := (Below.refl w.heap.size w).alloc (Nat.le_refl _) (.cells #[.int .i64 al, .int .i64 ah, .int .i64 an, .int .i64 af] 83)
  have hS0 := hs.step hB0
  have HCO := Lib.hid hco
  have HB0 := Lib.hid hB0
  have HS0 := Lib.hid hS0
  clear hr hco hav hx hy hB0 hS0
  go_enter Tryz.func83, Tryz.ntmps83
  go_wp2_with fail
  refine (HCO.out _).mono ?_
  rintro e w1 ⟨ba, bx, by_, bs, rfl, ka, kx, ky, kq, hb1⟩
  have hS1 := HS0.out.step hb1
  have hB1 := HB0.out.trans (hb1.mono HB0.out.size)
  unfold conds
  have KA := Lib.hid ka
  have KX := Lib.hid kx
  have KY := Lib.hid ky
  have KQ := Lib.hid kq
  clear ka kx ky kq hb1 HS0 HB0
  go_wp2_with fail
  go_loopw [6, 7, 8, 13] (fun R I V K wr => ∃ k : Nat, k ≤ 5 ∧ K = .int .i64 k ∧ Cs.firstNo ([c0, c1, c2, c3, c4].drop k) k = r ∧ Below w.heap.size w wr ∧ Below w1.heap.size w1 wr) (fun _ _ _ K _ => 5 - (intOf K).toNat)
  case atStart => exact ⟨0, by omega, rfl, HR.out, hB1, Below.refl _ _⟩
  case round =>
    obtain ⟨k, hk, rfl, hF, hB, hB2⟩ := hrel
    rcases (by omega : k = 0 ∨ k = 1 ∨ k = 2 ∨ k = 3 ∨ k = 4 ∨ k = 5) with rfl | rfl | rfl | rfl | rfl | rfl
    · have hc := (HC0.out _ _ (KA.out.below hB2 KA.out.lt))
      have HC := Lib.hid hc
      have hix := index_cond0 ba bx by_ bs
      unfold conds at hix
      have HB2 := Lib.hid hB2
      have HB := Lib.hid hB
      clear hc hB2 hB
      rcases c0 with _ | _
      · have HF := Lib.hid (show 0 + 1 = r from hF)
        clear hF
        go_wp2_with fail
        refine HC.out.mono ?_
        rintro e w2 ⟨rfl, hb2⟩
        go_wp2_with fail
        go_ret
        have h := HF.out
        subst h
        exact ⟨rfl, HB.out.trans (hb2.mono HB.out.size)⟩
      · have HF := Lib.hid hF
        clear hF
        go_wp2_with fail
        refine HC.out.mono ?_
        rintro e w2 ⟨rfl, hb2⟩
        go_wp2_with fail
        go_roundw
        case rel => exact ⟨1, by omega, by go_num, HF.out, HB.out.trans (hb2.mono HB.out.size), HB2.out.trans (hb2.mono HB2.out.size)⟩
        case measure => simp [intOf]
    · have hc := (HC1.out _ _ _ _ (hS1.step hB2) (KA.out.below hB2 KA.out.lt) (KX.out.below hB2 KX.out.lt) (KY.out.below hB2 KY.out.lt))
      have HC := Lib.hid hc
      have hix := index_cond1 ba bx by_ bs
      unfold conds at hix
      have HB2 := Lib.hid hB2
      have HB := Lib.hid hB
      clear hc hB2 hB
      rcases c1 with _ | _
      · have HF := Lib.hid (show 1 + 1 = r from hF)
        clear hF
        go_wp2_with fail
        refine HC.out.mono ?_
        rintro e w2 ⟨rfl, hb2⟩
        go_wp2_with fail
        go_ret
        have h := HF.out
        subst h
        exact ⟨rfl, HB.out.trans (hb2.mono HB.out.size)⟩
      · have HF := Lib.hid hF
        clear hF
        go_wp2_with fail
        refine HC.out.mono ?_
        rintro e w2 ⟨rfl, hb2⟩
        go_wp2_with fail
        go_roundw
        case rel => exact ⟨2, by omega, by go_num, HF.out, HB.out.trans (hb2.mono HB.out.size), HB2.out.trans (hb2.mono HB2.out.size)⟩
        case measure => simp [intOf]
    · have hc := (HC2.out _ _ _ _ (hS1.step hB2) (KA.out.below hB2 KA.out.lt) (KX.out.below hB2 KX.out.lt) (KY.out.below hB2 KY.out.lt))
      have HC := Lib.hid hc
      have hix := index_cond2 ba bx by_ bs
      unfold conds at hix
      have HB2 := Lib.hid hB2
      have HB := Lib.hid hB
      clear hc hB2 hB
      rcases c2 with _ | _
      · have HF := Lib.hid (show 2 + 1 = r from hF)
        clear hF
        go_wp2_with fail
        refine HC.out.mono ?_
        rintro e w2 ⟨rfl, hb2⟩
        go_wp2_with fail
        go_ret
        have h := HF.out
        subst h
        exact ⟨rfl, HB.out.trans (hb2.mono HB.out.size)⟩
      · have HF := Lib.hid hF
        clear hF
        go_wp2_with fail
        refine HC.out.mono ?_
        rintro e w2 ⟨rfl, hb2⟩
        go_wp2_with fail
        go_roundw
        case rel => exact ⟨3, by omega, by go_num, HF.out, HB.out.trans (hb2.mono HB.out.size), HB2.out.trans (hb2.mono HB2.out.size)⟩
        case measure => simp [intOf]
    · have hc := (HC3.out _ _ _ (KA.out.below hB2 KA.out.lt) (KQ.out.below hB2 KQ.out.lt))
      have HC := Lib.hid hc
      have hix := index_cond3 ba bx by_ bs
      unfold conds at hix
      have HB2 := Lib.hid hB2
      have HB := Lib.hid hB
      clear hc hB2 hB
      rcases c3 with _ | _
      · have HF := Lib.hid (show 3 + 1 = r from hF)
        clear hF
        go_wp2_with fail
        refine HC.out.mono ?_
        rintro e w2 ⟨rfl, hb2⟩
        go_wp2_with fail
        go_ret
        have h := HF.out
        subst h
        exact ⟨rfl, HB.out.trans (hb2.mono HB.out.size)⟩
      · have HF := Lib.hid hF
        clear hF
        go_wp2_with fail
        refine HC.out.mono ?_
        rintro e w2 ⟨rfl, hb2⟩
        go_wp2_with fail
        go_roundw
        case rel => exact ⟨4, by omega, by go_num, HF.out, HB.out.trans (hb2.mono HB.out.size), HB2.out.trans (hb2.mono HB2.out.size)⟩
        case measure => simp [intOf]
    · have hc := (HC4.out _ _ _ (KA.out.below hB2 KA.out.lt) (KQ.out.below hB2 KQ.out.lt))
      have HC := Lib.hid hc
      have hix := index_cond4 ba bx by_ bs
      unfold conds at hix
      have HB2 := Lib.hid hB2
      have HB := Lib.hid hB
      clear hc hB2 hB
      rcases c4 with _ | _
      · have HF := Lib.hid (show 4 + 1 = r from hF)
        clear hF
        go_wp2_with fail
        refine HC.out.mono ?_
        rintro e w2 ⟨rfl, hb2⟩
        go_wp2_with fail
        go_ret
        have h := HF.out
        subst h
        exact ⟨rfl, HB.out.trans (hb2.mono HB.out.size)⟩
      · have HF := Lib.hid hF
        clear hF
        go_wp2_with fail
        refine HC.out.mono ?_
        rintro e w2 ⟨rfl, hb2⟩
        go_wp2_with fail
        go_roundw
        case rel => exact ⟨5, by omega, by go_num, HF.out, HB.out.trans (hb2.mono HB.out.size), HB2.out.trans (hb2.mono HB2.out.size)⟩
        case measure => simp [intOf]
    · have HF := Lib.hid (show 0 = r from hF)
      clear hF
      go_wp2_with fail
      go_ret
      have h := HF.out
      subst h
      exact ⟨rfl, hB⟩

end Go.Proofs.YtncdeogpmodoaaaGreatDoor
