/-
  What the claim needs: contracts.
-/
import Derived.Laws.BytesArg
import Derived.Test.YtccikcpcfdjobaaGreatDoorBs14
import Derived.Test.YtccikcpcfdjobaaGreatDoorBs08
set_option linter.unusedVariables false
set_option linter.unusedSimpArgs false
set_option maxHeartbeats 8000000
set_option maxRecDepth 100000
namespace Go.Proofs.YtccikcpcfdjobaaGreatDoor
section
open Go.RowKit
theorem y87 (v : Fv) (f : Dd.Fd) (w : World) (hF : FRd w w.heap.size v f) :
  Calls Tryz.prog 33 #[fval v f] w fun e w' => ∃ A c, e = .returned (.tuple #[.slice A (Dd.natureF f).1.length c, .int .i64 (Dd.natureF f).2]) /\ Rd w' w'.heap.size 4 A (Dd.natureF f).1.length (bcells (Dd.natureF f).1) /\ (∀ a, A = some a -> w.heap.size <= a.block) /\ Below w.heap.size w w' := by
 have hd : Dd.natureF f = if Dd.fieldE f ≠ 0 then ([], Dd.fieldE f) else (Dd.nat f, 0) := rfl
 have S0 := jQ (Fs.new hF);have B0 := jQ (fun W (h : Fs w w.heap.size v f W) => y0Y v f W h.rd);have B1 := jQ (fun (h : Dd.fieldE f = 0) W => y4W v f (by have := Dd.y0G h; omega) (by have := Dd.y0G h; omega) (Dd.y0G h).1 W);rw [hd];obtain ⟨ef, hef⟩ := zE (Dd.fieldE f);rw [hef] at B0 B1 ⊢;obtain ⟨nf, hnf⟩ := zE (Dd.nat f);rw [hnf] at B1 ⊢;simp only [y01] at B0 B1 ⊢;obtain ⟨c0, c1, c2, c3, lg⟩ := S0.o.cells;clear hd hF hef hnf;by_cases he : ef = 0
 ·have B2 := jQ (B1.o he);subst he;rw [if_neg (by simp)];go_enter Tryz.func33, Tryz.ntmps33;go_wp2_with fail;refine (B0.o _ S0.o).mono ?_;rintro e w1 ⟨rfl, hb⟩;have S1 := jQ (S0.o.next hb);clear hb c0 c1 c2 c3 lg;obtain ⟨c0, c1, c2, c3, lg⟩ := S1.o.cells;go_wp2_with fail;refine (B2.o _).mono ?_;rintro e w2 ⟨A, c, rfl, hr, hfar, hb⟩;have S2 := jQ (S1.o.next hb);have HR := jQ hr;have HF := jQ (fun a (e : A = some a) => Nat.le_trans S1.o.b.size (hfar a e));clear hb hr hfar c0 c1 c2 c3 lg;go_wp2_with fail;go_ret2;exact ⟨A, c, rfl, HR.o, HF.o, S2.o.b⟩
 rw [if_pos he];have hne : (ef != 0) = true := by simp [he]
 go_enter Tryz.func33, Tryz.ntmps33;go_wp2_with fail;refine (B0.o _ S0.o).mono ?_;rintro e w1 ⟨rfl, hb⟩;have S1 := jQ (S0.o.next hb);clear hb c0 c1 c2 c3 lg;go_wp2_with fail;go_ret2;exact ⟨none, 0, rfl, Rd.nil _ _ _ _, (by intro a e; cases e), S1.o.b⟩
def icells (l : List Int) : List Value := l.map (Value.int .i64)
structure FRw (w : World) (B : Nat) (v : Fv) (f : Dd.Fd) : Prop where
 st : Rd w B 2 v.a1 f.st.length (scells f.st)
 li : Rd w B 1 v.a2 f.li.length (wcells f.li)
 pa : Rd w B 4 v.a3 f.pa.length (pcells f.pa)
 va : Rd w B 2 v.a4 f.va.length (vcells f.va)
 k1 : f.st.length <= v.c1
 k2 : f.li.length <= v.c2
 k3 : f.pa.length <= v.c3
 l1 : f.st.length <= 9223372036854775807
 l2 : f.li.length <= 9223372036854775807
 l3 : f.pa.length <= 9223372036854775807
 l4 : f.va.length <= 9223372036854775807
 n1 : ∀ s ∈ f.st, s.1.length <= 9223372036854775807
 n2 : ∀ s ∈ f.li, s.length <= 9223372036854775807
 n3 : ∀ p ∈ f.pa, p.name.length <= 9223372036854775807
theorem FRw.below {w w' : World} {B C : Nat} {v : Fv} {f : Dd.Fd} (h : FRw w B v f) (hb : Below C w w') (hC : B <= C) : FRw w' B v f :=
 ⟨h.st.below hb hC, h.li.below hb hC, h.pa.below hb hC, h.va.below hb hC, h.k1, h.k2, h.k3, h.l1, h.l2, h.l3, h.l4, h.n1, h.n2, h.n3⟩
def Dd.longN (s : Cs.Bs) : Bool := decide (100 < s.length)
def Dd.bigF (f : Dd.Fd) : Bool := decide (20 < f.st.length) || (decide (20 < f.li.length) || (decide (60 < f.pa.length) || decide (60 < f.va.length)))
def Dd.vastF (f : Dd.Fd) : Bool := Dd.bigF f || ((f.st.any fun s => Dd.longN s.1) || ((f.li.any Dd.longN) || (f.pa.any fun p => Dd.longN p.name)))
theorem Dd.y51 {s : Cs.Bs} (h : Dd.longN s = false) : s.length <= 100 := by simpa [Dd.longN] using h
theorem FRw.small {w : World} {B : Nat} {v : Fv} {f : Dd.Fd} (h : FRw w B v f) (hv : Dd.vastF f = false) : FRd w B v f := by
 unfold Dd.vastF Dd.bigF at hv;simp only [Bool.or_eq_false_iff, decide_eq_false_iff_not, List.any_eq_false] at hv;obtain ⟨⟨a1, a2, a3, a4⟩, b1, b2, b3⟩ := hv;exact ⟨h.st, h.li, h.pa, h.va, h.k1, h.k2, h.k3, by omega, by omega, by omega, by omega,
  fun s hs => Nat.le_trans (Dd.y51 (by simpa using b1 s hs)) (by decide), fun s hs => Nat.le_trans (Dd.y51 (by simpa using b2 s hs)) (by decide), fun s hs => Nat.le_trans (Dd.y51 (by simpa using b3 s hs)) (by decide)⟩
theorem y5R (v : Fv) (f : Dd.Fd) (w : World) (hF : FRw w w.heap.size v f) :
  Calls Tryz.prog 7 #[fval v f] w fun e w' => e = .returned (.bool (Dd.vastF f)) /\ Below w.heap.size w w' := by
 have hrf : Dd.vastF f = (Dd.bigF f || ((f.st.any fun s => Dd.longN s.1) || ((f.li.any Dd.longN) || (f.pa.any fun p => Dd.longN p.name)))) := rfl;have hbf : Dd.bigF f = (decide (20 < f.st.length) || (decide (20 < f.li.length) || (decide (60 < f.pa.length) || decide (60 < f.va.length)))) := rfl;have hl1 := hF.l1;have hl2 := hF.l2;have hl3 := hF.l3;have hl4 := hF.l4;have HF := jQ hF;have hfv : fval v f = .agg #[.slice v.a1 f.st.length v.c1, .slice v.a2 f.li.length v.c2, .slice v.a3 f.pa.length v.c3, .slice v.a4 f.va.length v.c4] := rfl;rw [hfv];clear hF hfv;obtain ⟨R, hR⟩ := zE (Dd.vastF f);rw [hR] at hrf ⊢;clear hR;by_cases a1 : 20 < f.st.length
 ·have hr : R = true := by rw [hrf, hbf, decide_eq_true a1]; rfl
  have HR := jQ hr;have d1 : decide ((f.st.length : Int) > 20) = true := decide_eq_true (by omega);clear hr hrf hbf;go_enter Tryz.func7, Tryz.ntmps7;go_wp2_with fail;go_ret;exact ⟨y00 HR.o.symm, (Below.refl _ _).alloc (Nat.le_refl _) _⟩
 by_cases a2 : 20 < f.li.length
 ·have hr : R = true := by rw [hrf, hbf, decide_eq_true a2]; simp
  have HR := jQ hr;have d1 : decide ((f.st.length : Int) > 20) = false := decide_eq_false (by omega);have d2 : decide ((f.li.length : Int) > 20) = true := decide_eq_true (by omega);clear hr hrf hbf;go_enter Tryz.func7, Tryz.ntmps7;go_wp2_with fail;go_ret;exact ⟨y00 HR.o.symm, (Below.refl _ _).alloc (Nat.le_refl _) _⟩
 by_cases a3 : 60 < f.pa.length
 ·have hr : R = true := by rw [hrf, hbf, decide_eq_true a3]; simp
  have HR := jQ hr;have d1 : decide ((f.st.length : Int) > 20) = false := decide_eq_false (by omega);have d2 : decide ((f.li.length : Int) > 20) = false := decide_eq_false (by omega);have d3 : decide ((f.pa.length : Int) > 60) = true := decide_eq_true (by omega);clear hr hrf hbf;go_enter Tryz.func7, Tryz.ntmps7;go_wp2_with fail;go_ret;exact ⟨y00 HR.o.symm, (Below.refl _ _).alloc (Nat.le_refl _) _⟩
 by_cases a4 : 60 < f.va.length
 ·have hr : R = true := by rw [hrf, hbf, decide_eq_true a4]; simp
  have HR := jQ hr;have d1 : decide ((f.st.length : Int) > 20) = false := decide_eq_false (by omega);have d2 : decide ((f.li.length : Int) > 20) = false := decide_eq_false (by omega);have d3 : decide ((f.pa.length : Int) > 60) = false := decide_eq_false (by omega);have d4 : decide ((f.va.length : Int) > 60) = true := decide_eq_true (by omega);clear hr hrf hbf;go_enter Tryz.func7, Tryz.ntmps7;go_wp2_with fail;go_ret;exact ⟨y00 HR.o.symm, (Below.refl _ _).alloc (Nat.le_refl _) _⟩
 rw [hbf, decide_eq_false a1, decide_eq_false a2, decide_eq_false a3, decide_eq_false a4, Bool.false_or, Bool.false_or, Bool.false_or, Bool.false_or] at hrf;have HR := jQ hrf;have d1 : decide ((f.st.length : Int) > 20) = false := decide_eq_false (by omega);have d2 : decide ((f.li.length : Int) > 20) = false := decide_eq_false (by omega);have d3 : decide ((f.pa.length : Int) > 60) = false := decide_eq_false (by omega);have d4 : decide ((f.va.length : Int) > 60) = false := decide_eq_false (by omega);clear hrf hbf;go_enter Tryz.func7, Tryz.ntmps7;go_wp2_with fail;have HB := jQ ((Below.refl w.heap.size w).alloc (Nat.le_refl _) (.cells #[.slice v.a1 f.st.length v.c1, .slice v.a2 f.li.length v.c2, .slice v.a3 f.pa.length v.c3, .slice v.a4 f.va.length v.c4] 27));have k0 := Bk.new w 27 #[.slice v.a1 f.st.length v.c1, .slice v.a2 f.li.length v.c2, .slice v.a3 f.pa.length v.c3, .slice v.a4 f.va.length v.c4];have f0 := (k0.cell 0).trans rfl;have f1 := (k0.cell 1).trans rfl;have f2 := (k0.cell 2).trans rfl;have kl := k0.lt;obtain ⟨W, hW⟩ := zE (w.alloc (.cells #[.slice v.a1 f.st.length v.c1, .slice v.a2 f.li.length v.c2, .slice v.a3 f.pa.length v.c3, .slice v.a4 f.va.length v.c4] 27));rw [hW] at HB f0 f1 f2 kl ⊢;clear hW k0
 go_loop [3] (fun I => ∃ k : Nat, k <= f.st.length /\ I = .int .i64 k /\ ∀ j (h : j < f.st.length), j < k -> Dd.longN f.st[j].1 = false) (fun I => f.st.length - (intOf I).toNat)
 case atStart => exact ⟨0, Nat.zero_le _, rfl, fun j h hj => absurd hj (by omega)⟩
 obtain ⟨k, hk, rfl, ha⟩ := hrel;have HA := jQ ha;clear ha;by_cases hlt : k < f.st.length
 ·obtain ⟨b, off, ha1, hb, e0, e1⟩ := (HF.o.st.below HB.o (Nat.le_refl _)).station hlt;have hb2 : b < W.heap.size := Nat.lt_of_lt_of_le hb HB.o.size;have hnl := HF.o.n1 _ (List.getElem_mem hlt);obtain ⟨x, hx⟩ := zE (f.st[k]);rw [hx] at e0 e1 hnl;have HX := jQ hx;by_cases hn : 100 < x.1.length
  ·have hno : R = true := by
    rw [HR.o];have : (f.st.any fun s => Dd.longN s.1) = true := List.any_eq_true.2 ⟨x, by rw [<- HX.o]; exact List.getElem_mem hlt, decide_eq_true hn⟩;rw [this];rfl
   have HNO := jQ hno;have d5 : decide ((x.1.length : Int) > 100) = true := decide_eq_true (by omega);clear hno hx;rw [ha1];go_wp2_with fail;go_ret;exact ⟨y00 HNO.o.symm, HB.o⟩
  have d5 : decide ((x.1.length : Int) > 100) = false := decide_eq_false (by omega);have HD := jQ (show Dd.longN x.1 = false from decide_eq_false hn);clear hx;rw [ha1];go_wp2_with fail
  go_round
  case rel =>
   refine ⟨k + 1, by omega, by go_num, fun j h hj => ?_⟩;by_cases e : j = k
   ·subst e;rw [HX.o];exact HD.o
   exact HA.o j h (by omega)
  case measure => simp [intOf]; omega
 obtain rfl : k = f.st.length := by omega
 have hst : (f.st.any fun s => Dd.longN s.1) = false := by
  rw [List.any_eq_false];intro x hx;obtain ⟨i, hi, rfl⟩ := List.getElem_of_mem hx;simpa using HA.o i hi hi
 have hrf := HR.o;rw [hst, Bool.false_or] at hrf;have HR2 := jQ hrf;clear hrf hst HR HA;go_wp2_with fail
 go_loop [4] (fun I => ∃ k : Nat, k <= f.li.length /\ I = .int .i64 k /\ ∀ j (h : j < f.li.length), j < k -> Dd.longN f.li[j] = false) (fun I => f.li.length - (intOf I).toNat)
 case atStart => exact ⟨0, Nat.zero_le _, rfl, fun j h hj => absurd hj (by omega)⟩
 obtain ⟨k, hk, rfl, ha⟩ := hrel;have HA := jQ ha;clear ha;by_cases hlt : k < f.li.length
 ·obtain ⟨b, off, ha1, hb, e0⟩ := (HF.o.li.below HB.o (Nat.le_refl _)).text hlt;have hb2 : b < W.heap.size := Nat.lt_of_lt_of_le hb HB.o.size;have hnl := HF.o.n2 _ (List.getElem_mem hlt);obtain ⟨x, hx⟩ := zE (f.li[k]);rw [hx] at e0 hnl;have HX := jQ hx;by_cases hn : 100 < x.length
  ·have hno : R = true := by
    rw [HR2.o];have : (f.li.any Dd.longN) = true := List.any_eq_true.2 ⟨x, by rw [<- HX.o]; exact List.getElem_mem hlt, decide_eq_true hn⟩;rw [this];rfl
   have HNO := jQ hno;have d5 : decide ((x.length : Int) > 100) = true := decide_eq_true (by omega);clear hno hx;rw [ha1];go_wp2_with fail;go_ret;exact ⟨y00 HNO.o.symm, HB.o⟩
  have d5 : decide ((x.length : Int) > 100) = false := decide_eq_false (by omega);have HD := jQ (show Dd.longN x = false from decide_eq_false hn);clear hx;rw [ha1];go_wp2_with fail
  go_round
  case rel =>
   refine ⟨k + 1, by omega, by go_num, fun j h hj => ?_⟩;by_cases e : j = k
   ·subst e;rw [HX.o];exact HD.o
   exact HA.o j h (by omega)
  case measure => simp [intOf]; omega
 obtain rfl : k = f.li.length := by omega
 have hst : (f.li.any Dd.longN) = false := by
  rw [List.any_eq_false];intro x hx;obtain ⟨i, hi, rfl⟩ := List.getElem_of_mem hx;simpa using HA.o i hi hi
 have hrf := HR2.o;rw [hst, Bool.false_or] at hrf;have HR3 := jQ hrf;clear hrf hst HR2 HA;go_wp2_with fail
 go_loop [5] (fun I => ∃ k : Nat, k <= f.pa.length /\ I = .int .i64 k /\ ∀ j (h : j < f.pa.length), j < k -> Dd.longN f.pa[j].name = false) (fun I => f.pa.length - (intOf I).toNat)
 case atStart => exact ⟨0, Nat.zero_le _, rfl, fun j h hj => absurd hj (by omega)⟩
 obtain ⟨k, hk, rfl, ha⟩ := hrel;have HA := jQ ha;clear ha;by_cases hlt : k < f.pa.length
 ·obtain ⟨b, off, ha1, hb, e0, e1, e2, e3⟩ := (HF.o.pa.below HB.o (Nat.le_refl _)).parcel hlt;have hb2 : b < W.heap.size := Nat.lt_of_lt_of_le hb HB.o.size;have hnl := HF.o.n3 _ (List.getElem_mem hlt);obtain ⟨x, hx⟩ := zE (f.pa[k]);rw [hx] at e0 e1 e2 e3 hnl;have HX := jQ hx;by_cases hn : 100 < x.name.length
  ·have hno : R = true := by
    rw [HR3.o];exact List.any_eq_true.2 ⟨x, by rw [<- HX.o]; exact List.getElem_mem hlt, decide_eq_true hn⟩
   have HNO := jQ hno;have d5 : decide ((x.name.length : Int) > 100) = true := decide_eq_true (by omega);clear hno hx;rw [ha1];go_wp2_with fail;go_ret;exact ⟨y00 HNO.o.symm, HB.o⟩
  have d5 : decide ((x.name.length : Int) > 100) = false := decide_eq_false (by omega);have HD := jQ (show Dd.longN x.name = false from decide_eq_false hn);clear hx;rw [ha1];go_wp2_with fail
  go_round
  case rel =>
   refine ⟨k + 1, by omega, by go_num, fun j h hj => ?_⟩;by_cases e : j = k
   ·subst e;rw [HX.o];exact HD.o
   exact HA.o j h (by omega)
  case measure => simp [intOf]; omega
 obtain rfl : k = f.pa.length := by omega
 have hst : R = false := by
  rw [HR3.o, List.any_eq_false];intro x hx;obtain ⟨i, hi, rfl⟩ := List.getElem_of_mem hx;simpa using HA.o i hi hi
 have HS := jQ hst;clear hst HR3 HA;go_wp2_with fail;go_ret;exact ⟨y00 HS.o.symm, HB.o⟩
end

section
open Go.ChangeShapes Go.WideShapes Go.ChangeAt Go.RowKit Go.Deep Go.Joins
theorem Tryz.cellsStr : Tryz.prog.cellsOf 9 = 1 := by kernel_rfl
theorem Tryz.cellsSta : Tryz.prog.cellsOf 66 = 2 := by kernel_rfl
theorem Tryz.cellsPar : Tryz.prog.cellsOf 68 = 4 := by kernel_rfl
theorem Tryz.cellsFld : Tryz.prog.cellsOf 27 = 4 := by kernel_rfl
theorem Tryz.cellsCal : Tryz.prog.cellsOf 48 = 13 := by kernel_rfl
theorem Tryz.cellsU8 : Tryz.prog.cellsOf 5 = 1 := by kernel_rfl
theorem Tryz.cellsS1 : Tryz.prog.cellsOf 22 = 1 := by kernel_rfl
theorem Tryz.cellsS2 : Tryz.prog.cellsOf 23 = 1 := by kernel_rfl
theorem Tryz.cellsS3 : Tryz.prog.cellsOf 24 = 1 := by kernel_rfl
theorem Tryz.cellsS4 : Tryz.prog.cellsOf 25 = 1 := by kernel_rfl
section
variable {H : Type} {enc : TypeId × Value -> H} {w : World} {base : Nat} {spare : Nat -> Bool} {held : Bool} {b0 : Nat} {r : Reach}
theorem y5j {α : Type} [Inhabited α] {P : Program} {cell : α -> List Value} {n : Nat} {t e : TypeId} {Q : α -> Prop} (ht : P.underlying t = some (.slice e)) (hce : P.cellsOf e = n) (hc : ∀ a, (cell a).length = n) (hn : 0 < n)
  (he : ∀ fuel cs x, DataW.trod enc P w base spare held fuel e cs = some x -> ∃ a, cs = cell a /\ Q a)
  {fuel : Nat} {cs : List Value} {x : DataW H × List MemPlace} (hf : DataW.trod enc P w base spare held fuel t cs = some x) :
  ∃ (A : Option Addr) (c : Nat) (ys : List α), cs = [.slice A ys.length c] /\ Rd w w.heap.size n A ys.length (ys.flatMap cell) /\ ys.length <= 9223372036854775807 /\ ys.length <= c /\ ∀ y ∈ ys, Q y := by
 rcases open_slice ht hf with ⟨hcs, hx⟩ | ⟨a, len, cap, m, k, D, Pl, hcs, _, hl, hm, hmm, hx, hel⟩
 ·exact ⟨none, 0, [], hcs, Rd.nil _ _ _ _, by simp, by simp, by simp⟩
 have hlm : len <= m := by rw [hmm]; split <;> omega
 have each : ∀ i, i < len -> ∃ x : α, (∀ j, j < n -> w.cell? (a.add (i * n + j)) = (cell x)[j]?) /\ Q x := by
  intro i hi;obtain ⟨cs', h1, h2⟩ := hel i (by omega);rw [hce] at h1;obtain ⟨_, hlen, hcell⟩ := World.cells?_some h1;obtain ⟨x, rfl, hq⟩ := he _ _ _ h2;refine ⟨x, fun j hj => ?_, hq⟩;have := hcell j hj
  rwa [add_add] at this
 obtain ⟨V, hV⟩ := choose_lt each;have hlen : ((List.range len).map V).length = len := by simp
 refine ⟨some a, cap, (List.range len).map V, by rw [hlen]; exact hcs, ⟨by rw [y6x hc], fun h0 => ?_⟩, by unfold maxLen at hm; simp; omega, by rw [hlen]; exact hl, fun b hb => ?_⟩
 ·rw [hlen] at h0 ⊢;obtain ⟨v0, hv0⟩ : ∃ v, (cell (V 0))[0]? = some v := by
   cases hg : (cell (V 0))[0]? with
   | none => rw [List.getElem?_eq_none_iff, hc] at hg; omega
   | some v => exact ⟨v, rfl⟩
  obtain ⟨b', off', hab, hb'⟩ := y5A (((hV 0 h0).1 0 hn).trans hv0);obtain ⟨b, off, s⟩ := a;obtain ⟨hb, rfl⟩ : b < w.heap.size /\ s = none := by
   simp only [Addr.add, Nat.zero_mul, Nat.add_zero, if_true, Addr.mk.injEq] at hab;exact ⟨by omega, hab.2.2⟩
  refine ⟨b, off, rfl, hb, fun j hj => ?_⟩;have hdiv : j / n < len := Nat.div_lt_of_lt_mul (by rwa [Nat.mul_comm]);have hq := (hV (j / n) hdiv).1 (j % n) (Nat.mod_lt _ hn);have hr := yCD hc ((List.range len).map V) (k := j / n) (by rw [hlen]; exact hdiv) (Nat.mod_lt j hn);have hjn : j / n * n + j % n = j := by rw [Nat.mul_comm]; exact Nat.div_add_mod j n
  rw [hjn] at hq hr;rw [add_plain] at hq;simp only [List.getElem_map, List.getElem_range] at hr;exact hq.trans hr.symm
 obtain ⟨i, hi, rfl⟩ := List.mem_map.1 hb;exact (hV i (List.mem_range.1 hi)).2
theorem y3Z {fuel : Nat} {cs : List Value} {x : DataW H × List MemPlace} (h : DataW.trod enc Tryz.prog w base spare held fuel 9 cs = some x) : ∃ s : Cs.Bs, cs = [.string ⟨s.toArray⟩] /\ s.length <= 9223372036854775807 := by
 obtain ⟨⟨⟨l⟩⟩, h1, _, h2⟩ := DataW.trod_string Tryz.underlying9 h;refine ⟨l, h1, ?_⟩;have e : (⟨⟨l⟩⟩ : ByteArray).size = l.length := rfl;unfold maxLen at h2;omega
theorem y98 {fuel : Nat} {cs : List Value} {x : DataW H × List MemPlace} (h : DataW.trod enc Tryz.prog w base spare held fuel 9 cs = some x) : ∃ s : Cs.Bs, cs = [sv s] /\ s.length <= 9223372036854775807 := y3Z h
theorem y6U {fuel : Nat} {cs : List Value} {x : DataW H × List MemPlace} (h : DataW.trod enc Tryz.prog w base spare held fuel 66 cs = some x) : ∃ v : Cs.Bs × Int, cs = scell v /\ v.1.length <= 9223372036854775807 := by
  obtain ⟨y0, y1, n, rfl, hl, g0, g1⟩ := trod_struct2 Tryz.underlying66 h;rw [Tryz.cellsSta] at hl
  match cs, hl with
  | [v0, v1], _ =>
    simp only [Tryz.cellsInt, Tryz.cellsStr, List.drop_zero, List.drop_succ_cons, List.take_succ_cons, List.take_zero] at g0 g1;obtain ⟨a, e0, w0⟩ := y3Z g0;obtain ⟨b, e1, _, w1⟩ := DataW.trod_int Tryz.underlying3 g1;simp only [List.cons.injEq, and_true] at e0 e1;subst e0; subst e1;exact ⟨(a, b), rfl, w0⟩
theorem y7W {fuel : Nat} {cs : List Value} {x : DataW H × List MemPlace} (h : DataW.trod enc Tryz.prog w base spare held fuel 68 cs = some x) : ∃ v : Dd.Pa, cs = pcell v /\ v.name.length <= 9223372036854775807 := by
  obtain ⟨xs, n, _, rfl, hl, hlen, hf⟩ := DataW.trod_struct Tryz.underlying68 h;rw [Tryz.cellsPar] at hl
  match xs, hlen with
  | [y0, y1, y2, y3], _ =>
    have f0 := hf 0 _ rfl;have f1 := hf 1 _ rfl;have f2 := hf 2 _ rfl;have f3 := hf 3 _ rfl
    match cs, hl with
    | [v0, v1, v2, v3], _ =>
      simp only [Tryz.cellsInt, Tryz.cellsStr, List.drop_zero, List.drop_succ_cons, List.take_succ_cons, List.take_zero, List.getElem?_cons_zero, List.getElem?_cons_succ] at f0 f1 f2 f3;obtain ⟨a, e0, w0⟩ := y3Z f0;obtain ⟨b, e1, _, w1⟩ := DataW.trod_int Tryz.underlying3 f1;obtain ⟨c, e2, _, w2⟩ := DataW.trod_int Tryz.underlying3 f2;obtain ⟨d, e3, _, w3⟩ := DataW.trod_int Tryz.underlying3 f3;cases e0; cases e1; cases e2; cases e3;exact ⟨⟨a, b, c, d⟩, rfl, w0⟩
instance : Inhabited Dd.Pa := ⟨⟨[], 0, 0, 0⟩⟩
instance : Inhabited Dd.Ca := ⟨Dd.ca0⟩
theorem yD8 {n : Int} (h : (Lit.int .u8 n).wf = true) : 0 <= n /\ n <= 255 := by
 simp only [Lit.wf, Bool.and_eq_true, decide_eq_true_eq] at h;have h1 : IntKind.u8.min = 0 := by decide
 have h2 : IntKind.u8.max = 255 := by decide
 omega
def CaWf (c : Dd.Ca) : Prop := (0 <= c.k /\ c.k <= 255) /\ wfI c.l /\ wfI c.o /\ wfI c.a /\ wfI c.b /\ wfI c.s /\ wfI c.e
theorem yAn {fuel : Nat} {cs : List Value} {x : DataW H × List MemPlace} (h : DataW.trod enc Tryz.prog w base spare held fuel 48 cs = some x) : ∃ c : Dd.Ca, cs = cacell c /\ CaWf c := by
  obtain ⟨xs, n, _, rfl, hl, hlen, hf⟩ := DataW.trod_struct Tryz.underlying48 h;rw [Tryz.cellsCal] at hl
  match xs, hlen with
  | [y0, y1, y2, y3, y4, y5, y6, y7], _ =>
    have f0 := hf 0 _ rfl;have f1 := hf 1 _ rfl;have f2 := hf 2 _ rfl;have f3 := hf 3 _ rfl;have f4 := hf 4 _ rfl;have f5 := hf 5 _ rfl;have f6 := hf 6 _ rfl;have f7 := hf 7 _ rfl
    match cs, hl with
    | [v0, v1, v2, v3, v4, v5, v6, v7, v8, v9, v10, v11, v12], _ =>
      simp only [Tryz.cellsInt, Tryz.cellsU8, Tryz.cellsCo, List.drop_zero, List.drop_succ_cons, List.take_succ_cons, List.take_zero, List.getElem?_cons_zero, List.getElem?_cons_succ] at f0 f1 f2 f3 f4 f5 f6 f7;obtain ⟨k, e0, _, w0⟩ := DataW.trod_int Tryz.underlying5 f0;obtain ⟨l, e1, _, w1⟩ := DataW.trod_int Tryz.underlying3 f1;obtain ⟨o, e2, _, w2⟩ := DataW.trod_int Tryz.underlying3 f2;obtain ⟨a, e3, _, w3⟩ := DataW.trod_int Tryz.underlying3 f3;obtain ⟨b, e4, _, w4⟩ := DataW.trod_int Tryz.underlying3 f4;obtain ⟨s, e5, _, w5⟩ := DataW.trod_int Tryz.underlying3 f5;obtain ⟨e, e6, _, w6⟩ := DataW.trod_int Tryz.underlying3 f6;obtain ⟨c, e7, _⟩ := y7V f7;cases e0; cases e1; cases e2; cases e3; cases e4; cases e5; cases e6;obtain ⟨c1, c2, c3, c4, c5, c6⟩ := c;simp only [ccell, List.cons.injEq, and_true] at e7;obtain ⟨rfl, rfl, rfl, rfl, rfl, rfl⟩ := e7;exact ⟨⟨k, l, o, a, b, s, e, c1, c2, c3, c4, c5, c6⟩, rfl, yD8 w0, w1, w2, w3, w4, w5, w6⟩
theorem y63 {v : Value} {d : DataW H} {p : List MemPlace} (hv : Value.okWide Tryz.prog w r b0 48 v) (h : DataW.Trod enc Tryz.prog w base spare held 48 v d p) : ∃ c : Dd.Ca, v = caval c /\ CaWf c := by
 obtain ⟨cs, rfl, hsz⟩ := okWide_struct Tryz.underlying48 hv;obtain ⟨fuel, hf⟩ := h;obtain ⟨c, hc, hw⟩ := yAn hf;refine ⟨c, ?_, hw⟩;have : cs.toList = cacell c := hc;obtain ⟨l⟩ := cs;simp only at this;subst this;rfl
theorem y8t {v : Value} {d : DataW H} {p : List MemPlace} (hv : Value.okWide Tryz.prog w r b0 27 v) (h : DataW.Trod enc Tryz.prog w base spare held 27 v d p) :
    ∃ (u : Fv) (f : Dd.Fd), v = fval u f /\ FRw w w.heap.size u f := by
  obtain ⟨cs, rfl, hsz⟩ := okWide_struct Tryz.underlying27 hv;obtain ⟨fuel, hfu⟩ := h;obtain ⟨xs, n, _, _, hl, hlen, hf⟩ := DataW.trod_struct Tryz.underlying27 hfu;rw [Tryz.cellsFld] at hl;obtain ⟨cs⟩ := cs;have hl : cs.length = 4 := hl
  match xs, hlen with
  | [y0, y1, y2, y3], _ =>
    have f0 := hf 0 _ rfl;have f1 := hf 1 _ rfl;have f2 := hf 2 _ rfl;have f3 := hf 3 _ rfl
    match cs, hl with
    | [v0, v1, v2, v3], _ =>
      simp only [Value.cells, Tryz.cellsS1, Tryz.cellsS2, Tryz.cellsS3, Tryz.cellsS4, List.drop_zero, List.drop_succ_cons, List.take_succ_cons, List.take_zero, List.getElem?_cons_zero, List.getElem?_cons_succ] at f0 f1 f2 f3;obtain ⟨A1, c1, st, e0, r1, l1, k1, n1⟩ := y5j (cell := scell) (n := 2) (Q := fun v => v.1.length <= 9223372036854775807) Tryz.underlying22 Tryz.cellsSta (fun _ => rfl) (by decide) (fun fuel cs x hx => y6U hx) f0;obtain ⟨A2, c2, li, e1, r2, l2, k2, n2⟩ := y5j (cell := fun s => [sv s]) (n := 1) (Q := fun v => v.length <= 9223372036854775807) Tryz.underlying23 Tryz.cellsStr (fun _ => rfl) (by decide) (fun fuel cs x hx => y98 hx) f1;obtain ⟨A3, c3, pa, e2, r3, l3, k3, n3⟩ := y5j (cell := pcell) (n := 4) (Q := fun v => v.name.length <= 9223372036854775807) Tryz.underlying24 Tryz.cellsPar (fun _ => rfl) (by decide) (fun fuel cs x hx => y7W hx) f2;obtain ⟨A4, c4, va, e3, r4, l4, _, _⟩ := y5j (cell := vcell) (n := 2) (Q := fun _ => True) Tryz.underlying25 Tryz.cellsVar (fun _ => rfl) (by decide) (fun fuel cs x hx => y4G hx) f3;cases e0; cases e1; cases e2; cases e3;have hw : ∀ l : List Cs.Bs, l.flatMap (fun s => [sv s]) = wcells l := fun l => by
        induction l with
        | nil => rfl
        | cons a t ih => rw [List.flatMap_cons, ih]; rfl
      rw [hw] at r2;exact ⟨⟨A1, c1, A2, c2, A3, c3, A4, c4⟩, ⟨st, li, pa, va⟩, rfl, r1, r2, r3, r4, k1, k2, k3, l1, l2, l3, l4, n1, n2, n3⟩
end
end

section
open Go.ChangeShapes Go.WideShapes Go.ChangeAt Go.RowKit Go.Deep Go.Joins
section
variable {H : Type} {enc : TypeId × Value -> H} {w : World} {base : Nat} {spare : Nat -> Bool} {held : Bool} {b0 : Nat} {r : Reach}
theorem y71 (l : List Int) : l.flatMap (fun a => [Value.int .i64 a]) = icells l := by
 induction l with
 | nil => rfl
 | cons a t ih => rw [List.flatMap_cons, ih]; rfl
theorem yAN {v : Value} {d : DataW H} {p : List MemPlace} (hv : Value.okWide Tryz.prog w r b0 28 v) (h : DataW.Trod enc Tryz.prog w base spare held 28 v d p) :
  ∃ (A : Option Addr) (c : Nat) (y : List Int), v = .slice A y.length c /\ Rd w w.heap.size 1 A y.length (icells y) /\ y.length <= 9223372036854775807 := by
 obtain ⟨a0, len, cap, rfl⟩ := okWide_slice Tryz.underlying28 hv;obtain ⟨fuel, hf⟩ := h;obtain ⟨A1, c1, y, e0, r1, l1, k1, _⟩ := y5j (cell := fun a : Int => [Value.int .i64 a]) (n := 1) (Q := fun _ => True) Tryz.underlying28 Tryz.cellsInt (fun _ => rfl) (by decide)
  (fun fuel cs x hx => by obtain ⟨a, e, _⟩ := DataW.trod_int Tryz.underlying3 hx; exact ⟨a, e, trivial⟩) hf
 rw [y71] at r1;simp only [Value.cells, List.cons.injEq, and_true, Value.slice.injEq] at e0;obtain ⟨rfl, rfl, rfl⟩ := e0;exact ⟨_, _, y, rfl, r1, l1⟩
end
end
end Go.Proofs.YtccikcpcfdjobaaGreatDoor
