/-
  What the claim needs: contracts.
-/
import Derived.Test.YtccikcpcfdjobaaGreatDoorBs09
set_option linter.unusedVariables false
set_option linter.unusedSimpArgs false
set_option maxHeartbeats 8000000
set_option maxRecDepth 100000
namespace Go.Proofs.YtccikcpcfdjobaaGreatDoor
section
open Go.RowKit
theorem y0K (a x b : Int) (w : World) : Calls Tryz.prog 48 #[.int .i64 a, .int .i64 x, .int .i64 b] w fun e w' => e = .returned (.bool (decide (a <= x /\ x <= b))) /\ w = w' := by
 by_cases h1 : a <= x
 ·by_cases h2 : x <= b
  ·rw [decide_eq_true ⟨h1, h2⟩];go_enter Tryz.func48, Tryz.ntmps48
   go_wp2
   go_ret;exact ⟨rfl, rfl⟩
  rw [decide_eq_false (fun h => h2 h.2)];have h2 : decide (x <= b) = false := decide_eq_false h2;go_enter Tryz.func48, Tryz.ntmps48
  go_wp2
  go_ret;exact ⟨rfl, rfl⟩
 rw [decide_eq_false (fun h => h1 h.1)];have h1 : decide (a <= x) = false := decide_eq_false h1;go_enter Tryz.func48, Tryz.ntmps48
 go_wp2
 go_ret;exact ⟨rfl, rfl⟩
theorem y0J (i n : Int) (w : World) : Calls Tryz.prog 44 #[.int .i64 i, .int .i64 n] w fun e w' => e = .returned (.bool (Dd.isIx i n)) /\ w = w' := by
 have hd : Dd.isIx i n = decide (0 <= i /\ i < n) := rfl;rw [hd];clear hd;by_cases h1 : 0 <= i
 ·by_cases h2 : i < n
  ·rw [decide_eq_true ⟨h1, h2⟩];go_enter Tryz.func44, Tryz.ntmps44
   go_wp2
   go_ret;exact ⟨rfl, rfl⟩
  rw [decide_eq_false (fun h => h2 h.2)];have h2 : decide (i < n) = false := decide_eq_false h2;go_enter Tryz.func44, Tryz.ntmps44
  go_wp2
  go_ret;exact ⟨rfl, rfl⟩
 rw [decide_eq_false (fun h => h1 h.1)];have h1 : decide (0 <= i) = false := decide_eq_false h1;go_enter Tryz.func44, Tryz.ntmps44
 go_wp2
 go_ret;exact ⟨rfl, rfl⟩
theorem y8Y (p q : Dd.Pa) (w : World) : Calls Tryz.prog 106 #[.agg #[.string ⟨p.name.toArray⟩, .int .i64 p.south, .int .i64 p.west, .int .i64 p.east], .agg #[.string ⟨q.name.toArray⟩, .int .i64 q.south, .int .i64 q.west, .int .i64 q.east]] w
  fun e w' => e = .returned (.bool (Dd.facing p q)) /\ Below w.heap.size w w' := by
 have hd : Dd.facing p q = decide (max p.west q.west < min p.east q.east) := rfl;rw [hd];clear hd;obtain ⟨n1, s1, a1, b1⟩ := p;obtain ⟨n2, s2, a2, b2⟩ := q;dsimp only;go_enter Tryz.func106, Tryz.ntmps106;go_wp2_with fail;go_ret;exact ⟨rfl, ((Below.refl _ _).alloc (Nat.le_refl _) _).alloc (by simp) _⟩
theorem y73 (v : Fv) (f : Dd.Fd) (w : World) (hF : FRd w w.heap.size v f) :
  Calls Tryz.prog 83 #[fval v f] w fun e w' => e = .returned (.bool (Dd.rangeF f)) /\ Below w.heap.size w w' := by
 have hrf : Dd.rangeF f = (f.st.all Dd.xOk && f.pa.all (Dd.paOk f)) := rfl;have hl1 := hF.l1;have hl2 := hF.l2;have hl3 := hF.l3;have HF := jQ hF;have hfv : fval v f = .agg #[.slice v.a1 f.st.length v.c1, .slice v.a2 f.li.length v.c2, .slice v.a3 f.pa.length v.c3, .slice v.a4 f.va.length v.c4] := rfl;rw [hfv];clear hF hfv;obtain ⟨R, hR⟩ := zE (Dd.rangeF f);rw [hR] at hrf ⊢;have HR := jQ hrf;clear hR hrf;go_enter Tryz.func83, Tryz.ntmps83;go_wp2_with fail;go_loopw [10] (fun I wr => ∃ k : Nat, k <= f.st.length /\ I = .int .i64 k /\ (∀ j (h : j < f.st.length), j < k -> Dd.xOk f.st[j] = true) /\ Below w.heap.size w wr /\ Bk wr w.heap.size 27 #[.slice v.a1 f.st.length v.c1, .slice v.a2 f.li.length v.c2, .slice v.a3 f.pa.length v.c3, .slice v.a4 f.va.length v.c4])
  (fun I _ => f.st.length - (intOf I).toNat)
 case atStart => exact ⟨0, Nat.zero_le _, rfl, fun j h hj => absurd hj (by omega), (Below.refl _ _).alloc (Nat.le_refl _) _, Bk.new _ _ _⟩
 obtain ⟨k, hk, rfl, ha, hB, hK⟩ := hrel;have HA := jQ ha;clear ha;by_cases hlt : k < f.st.length
 ·obtain ⟨b, off, ha1, hb, e0, e1⟩ := (HF.o.st.below hB (Nat.le_refl _)).station hlt;have hb2 : b < wr.heap.size := Nat.lt_of_lt_of_le hb hB.size;obtain ⟨x, hx⟩ := zE (f.st[k]);rw [hx] at e0 e1;have HX := jQ hx;have hxo : Dd.xOk x = decide (0 <= x.2 /\ x.2 <= 100000) := rfl;obtain ⟨n, z⟩ := x;dsimp only at e0 e1 hxo;have hbt := y0K 0 z 100000;have hB2 := hB.alloc hB.size (.cells #[.string ⟨n.toArray⟩, .int .i64 z] 66);have hK2 := hK.alloc (.cells #[.string ⟨n.toArray⟩, .int .i64 z] 66);have HB2 := jQ hB2;have HK2 := jQ hK2;rcases hq : decide (0 <= z /\ z <= 100000) with _ | _
  ·rw [hq] at hxo hbt;have hno : R = false := by
    rw [HR.o];have : f.st.all Dd.xOk = false := by
     rw [<- Bool.not_eq_true, List.all_eq_true];intro h;have := h _ (List.getElem_mem hlt);rw [HX.o, hxo] at this;cases this
    rw [this];rfl
   have HNO := jQ hno;have HBT := jQ hbt;clear hbt hno hxo hq hx hB hK hB2 hK2;rw [ha1];go_wp2_with (go_at_call 48; refine (HBT.o _).mono ?_; rintro e w' ⟨rfl, rfl⟩);go_ret;exact ⟨y00 HNO.o.symm, HB2.o⟩
  rw [hq] at hxo hbt;have HXO := jQ hxo;have HBT := jQ hbt;clear hbt hxo hq hx hB hK hB2 hK2;rw [ha1];go_wp2_with (go_at_call 48; refine (HBT.o _).mono ?_; rintro e w' ⟨rfl, rfl⟩);go_roundw
  case rel =>
   refine ⟨k + 1, by omega, by go_num, fun j h hj => ?_, HB2.o, by rw [<- ha1]; exact HK2.o⟩;by_cases e : j = k
   ·subst e;rw [HX.o];exact HXO.o
   exact HA.o j h (by omega)
  case measure => simp [intOf]; omega
 obtain rfl : k = f.st.length := by omega
 have hst : f.st.all Dd.xOk = true := by
  rw [List.all_eq_true];intro x hx;obtain ⟨i, hi, rfl⟩ := List.getElem_of_mem hx;exact HA.o i hi hi
 have hr2 : R = f.pa.all (Dd.paOk f) := by rw [HR.o, hst, Bool.true_and]
 have HR2 := jQ hr2;have c2 := (hK.cell 2).trans rfl;have lk := hK.lt;have HK := jQ hK;have HB := jQ hB;clear hst hr2 hK hB HA HR;go_wp2_with fail;go_loopw [22] (fun I wx => ∃ k : Nat, k <= f.pa.length /\ I = .int .i64 k /\ (∀ j (h : j < f.pa.length), j < k -> Dd.paOk f f.pa[j] = true) /\ Below w.heap.size w wx /\ Bk wx w.heap.size 27 #[.slice v.a1 f.st.length v.c1, .slice v.a2 f.li.length v.c2, .slice v.a3 f.pa.length v.c3, .slice v.a4 f.va.length v.c4])
  (fun I _ => f.pa.length - (intOf I).toNat)
 case atStart => exact ⟨0, Nat.zero_le _, rfl, fun j h hj => absurd hj (by omega), HB.o, HK.o⟩
 clear HB HK c2 lk;obtain ⟨k, hk, rfl, ha, hB, hK⟩ := hrel;have HA := jQ ha;clear ha;by_cases hlt : k < f.pa.length
 ·obtain ⟨b, off, ha3, hb, e0, e1, e2, e3⟩ := (HF.o.pa.below hB (Nat.le_refl _)).parcel hlt;have hpm : Dd.paOk f f.pa[k] = (Dd.isIx f.pa[k].south (f.li.length - 1) && Dd.isIx f.pa[k].west f.st.length && Dd.isIx f.pa[k].east f.st.length) := rfl;obtain ⟨x, hx⟩ := zE (f.pa[k]);rw [hx] at e0 e1 e2 e3 hpm;have HX := jQ hx;obtain ⟨n, s, a, z⟩ := x;dsimp only at e0 e1 e2 e3 hpm;have hB2 := hB.alloc hB.size (.cells #[.string ⟨n.toArray⟩, .int .i64 s, .int .i64 a, .int .i64 z] 68);have hK2 := hK.alloc (.cells #[.string ⟨n.toArray⟩, .int .i64 s, .int .i64 a, .int .i64 z] 68);have HB2 := jQ hB2;have HK2 := jQ hK2;have hno : Dd.paOk f ⟨n, s, a, z⟩ = false -> R = false := fun h => by
   rw [HR2.o, <- Bool.not_eq_true, List.all_eq_true];intro h2;have := h2 _ (List.getElem_mem hlt);rw [HX.o, h] at this;cases this
  have HNO := jQ hno;have c0 := (hK.cell 0).trans rfl;have c1 := (hK.cell 1).trans rfl;have lk := hK.lt;have HPM := jQ hpm;clear hno hpm hx hB hK hB2 hK2;rw [ha3];rcases z1 : Dd.isIx s ((f.li.length : Int) - 1) with _ | _
  ·have HR := jQ (HNO.o (by rw [HPM.o, z1]; rfl));have D1 := jQ z1;have D2 := D1;have D3 := D1;clear z1 HA HNO HPM HX HR2;go_wp2_with (go_at_call 44; refine (y0J _ _ _).mono ?_; (first | rw [D1.o] | rw [D2.o] | rw [D3.o]); rintro e w' ⟨rfl, rfl⟩);go_ret;exact ⟨y00 HR.o.symm, HB2.o⟩
  rcases z2 : Dd.isIx a f.st.length with _ | _
  ·have HR := jQ (HNO.o (by rw [HPM.o, z1, z2]; rfl));have D1 := jQ z1;have D2 := jQ z2;have D3 := D1;clear z1 z2 HA HNO HPM HX HR2;go_wp2_with (go_at_call 44; refine (y0J _ _ _).mono ?_; (first | rw [D1.o] | rw [D2.o] | rw [D3.o]); rintro e w' ⟨rfl, rfl⟩);go_ret;exact ⟨y00 HR.o.symm, HB2.o⟩
  rcases z3 : Dd.isIx z f.st.length with _ | _
  ·have HR := jQ (HNO.o (by rw [HPM.o, z1, z2, z3]; rfl));have D1 := jQ z1;have D2 := jQ z2;have D3 := jQ z3;clear z1 z2 z3 HA HNO HPM HX HR2;go_wp2_with (go_at_call 44; refine (y0J _ _ _).mono ?_; (first | rw [D1.o] | rw [D2.o] | rw [D3.o]); rintro e w' ⟨rfl, rfl⟩);go_ret;exact ⟨y00 HR.o.symm, HB2.o⟩
  have D1 := jQ z1;have D2 := jQ z2;have D3 := jQ z3;have HYES := jQ (show Dd.paOk f ⟨n, s, a, z⟩ = true by rw [HPM.o, z1, z2, z3]; rfl);clear z1 z2 z3 HNO HPM HR2;go_wp2_with (go_at_call 44; refine (y0J _ _ _).mono ?_; (first | rw [D1.o] | rw [D2.o] | rw [D3.o]); rintro e w' ⟨rfl, rfl⟩);go_roundw
  case rel =>
   refine ⟨k + 1, by omega, by go_num, fun j h hj => ?_, HB2.o, by rw [<- ha3]; exact HK2.o⟩;by_cases e : j = k
   ·subst e;rw [HX.o];exact HYES.o
   exact HA.o j h (by omega)
  case measure => simp [intOf]; omega
 obtain rfl : k = f.pa.length := by omega
 have hst : f.pa.all (Dd.paOk f) = true := by
  rw [List.all_eq_true];intro x hx;obtain ⟨i, hi, rfl⟩ := List.getElem_of_mem hx;exact HA.o i hi hi
 have HRR := jQ (HR2.o.trans hst);have HB := jQ hB;clear hst hB hK HA;go_wp2_with fail;go_ret;exact ⟨y00 HRR.o.symm, HB.o⟩
end

section
open Go.RowKit
namespace Dd
theorem yAo : ∀ (l : List Int) (a : Int), upA a l = true ↔ (∀ h : 0 < l.length, a < l[0]) /\ ∀ j (h : j + 1 < l.length), l[j] < l[j + 1]
  | [], a => by simp [upA]
  | b :: r, a => by
    rw [upA, Bool.and_eq_true, yAo r b, decide_eq_true_eq];constructor
    · rintro ⟨h1, h2, h3⟩
      refine ⟨fun _ => h1, fun j h => ?_⟩;cases j with
      | zero => exact h2 (by simpa using h)
      | succ j => exact h3 j (by simpa using h)
    rintro ⟨h1, h2⟩;refine ⟨h1 (by simp), fun h => ?_, fun j h => ?_⟩
    · exact h2 0 (by simpa using h)
    exact h2 (j + 1) (by simpa using h)
theorem yCZ (l : List Int) : upF l = true ↔ ∀ j (h : j + 1 < l.length), l[j] < l[j + 1] := by
  cases l with
  | nil => simp [upF]
  | cons a r =>
    rw [upF, yAo];constructor
    · rintro ⟨h1, h2⟩ j h
      cases j with
      | zero => exact h1 (by simpa using h)
      | succ j => exact h2 j (by simpa using h)
    intro h;exact ⟨fun h0 => h 0 (by simpa using h0), fun j hj => h (j + 1) (by simpa using hj)⟩
theorem yCa (l : List (Bs × Int)) : upF (l.map (·.2)) = true ↔ ∀ j (h : j + 1 < l.length), l[j].2 < l[j + 1].2 := by
 rw [yCZ];constructor
 ·intro h j hj;have := h j (by simpa using hj);simpa using this
 intro h j hj;have := h j (by simpa using hj);simpa using this
end Dd
theorem y64 (p q : Dd.Pa) (g : Nat) (w : World) (k : Bk w g 68 #[.string ⟨p.name.toArray⟩, .int .i64 p.south, .int .i64 p.west, .int .i64 p.east]) :
  Calls Tryz.prog 138 #[.agg #[.string ⟨q.name.toArray⟩, .int .i64 q.south, .int .i64 q.west, .int .i64 q.east], .pointer (some ⟨g, 0, none⟩)] w
   fun e w' => e = .returned (.bool (Dd.hits p q)) /\ Below w.heap.size w w' := by
 have hd : Dd.hits p q = (decide (q.south = p.south) && Dd.facing p q) := rfl;have HFC := jQ fun W => y8Y p q W;rw [hd];have c0 := (k.cell 0).trans rfl;have c1 := (k.cell 1).trans rfl;have c2 := (k.cell 2).trans rfl;have c3 := (k.cell 3).trans rfl;have lk := k.lt;have hB := (Below.refl w.heap.size w).alloc (Nat.le_refl _) (.cells #[.string ⟨q.name.toArray⟩, .int .i64 q.south, .int .i64 q.west, .int .i64 q.east] 68);have HB := jQ hB;clear hd k hB;by_cases he : q.south = p.south
 ·have h1 : (q.south == p.south) = true := by simp [he]
  rw [decide_eq_true he, Bool.true_and];obtain ⟨n1, s1, a1, b1⟩ := p;obtain ⟨n2, s2, a2, b2⟩ := q;dsimp only at *;clear he;go_enter Tryz.func138, Tryz.ntmps138;go_wp2_with fail;refine (HFC.o _).mono ?_;rintro e w1 ⟨rfl, hb⟩;have HB2 := jQ (HB.o.trans (hb.mono HB.o.size));clear hb;go_wp2_with fail;go_ret;exact ⟨rfl, HB2.o⟩
 have h1 : (q.south == p.south) = false := by simp [he]
 rw [decide_eq_false he, Bool.false_and];obtain ⟨n1, s1, a1, b1⟩ := p;obtain ⟨n2, s2, a2, b2⟩ := q;dsimp only at *;clear he;go_enter Tryz.func138, Tryz.ntmps138;go_wp2_with fail;go_ret;exact ⟨rfl, HB.o⟩
theorem y72 (v : Fv) (f : Dd.Fd) (w : World) (hF : FRd w w.heap.size v f) (h2 : 2 <= f.st.length) :
  Calls Tryz.prog 84 #[fval v f] w fun e w' => e = .returned (.bool (Dd.orderF f)) /\ Below w.heap.size w w' := by
 have hmf := zM;have hrf : Dd.orderF f = (Dd.upF (f.st.map (·.2)) && Dd.clearA [] f.pa) := rfl;have hl1 := hF.l1;have hl3 := hF.l3;have hk1 := hF.k1;have hk3 := hF.k3;have HF := jQ hF;have hfv : fval v f = .agg #[.slice v.a1 f.st.length v.c1, .slice v.a2 f.li.length v.c2, .slice v.a3 f.pa.length v.c3, .slice v.a4 f.va.length v.c4] := rfl;rw [hfv];obtain ⟨b, off, ha1, hb, hcells⟩ := hF.st.2 (by omega);have HUP := jQ (Dd.yCa f.st);have HCL := jQ (fun (k : Nat) (hk : k < f.pa.length) => Dd.y8J hk);clear hF hfv;obtain ⟨R, hR⟩ := zE (Dd.orderF f);rw [hR] at hrf ⊢;have HR := jQ hrf;have HA1 := jQ ha1;have c1n : ¬ v.c1 = 1 := by omega
 clear hR hrf hcells;rw [ha1];go_enter Tryz.func84, Tryz.ntmps84;go_wp2_with fail;go_loopw [12] (fun I wr => ∃ k : Nat, k <= f.st.length - 1 /\ I = .int .i64 k /\ (∀ j (h : j + 1 < f.st.length), j < k -> f.st[j].2 < f.st[j + 1].2) /\ Below w.heap.size w wr /\ Bk wr w.heap.size 27 #[.slice (some ⟨b, off, none⟩) f.st.length v.c1, .slice v.a2 f.li.length v.c2, .slice v.a3 f.pa.length v.c3, .slice v.a4 f.va.length v.c4])
  (fun I _ => f.st.length - 1 - (intOf I).toNat)
 case atStart => exact ⟨0, Nat.zero_le _, rfl, fun j h hj => absurd hj (by omega), (Below.refl _ _).alloc (Nat.le_refl _) _, Bk.new _ _ _⟩
 obtain ⟨k, hk, rfl, ha, hB, hK⟩ := hrel;have HA := jQ ha;clear ha;by_cases hlt : k < f.st.length - 1
 ·have hR := HF.o.st.below hB (Nat.le_refl _);obtain ⟨b1, off1, hb1, hbl, d0, d1⟩ := hR.station (k := k) (by omega);obtain ⟨b2, off2, hb2, _, e0, e1⟩ := hR.station (k := k + 1) (by omega);rw [HA1.o] at hb1 hb2;obtain ⟨rfl, rfl⟩ : b = b1 /\ off = off1 := by simpa using hb1
  obtain ⟨rfl, rfl⟩ : b = b2 /\ off = off2 := by simpa using hb2
  have hbw : b < wr.heap.size := Nat.lt_of_lt_of_le hbl hB.size;rw [show off + (k + 1) * 2 = off + 2 + k * 2 by omega] at e0 e1;have hup : ∀ h : k + 1 < f.st.length, (f.st[k].2 < f.st[k + 1].2) = (f.st[k].2 < f.st[k + 1].2) := fun _ => rfl;obtain ⟨⟨n, x⟩, hx⟩ : ∃ x, f.st[k]'(by omega) = x := ⟨_, rfl⟩;obtain ⟨⟨n2, x2⟩, hx2⟩ : ∃ x, f.st[k + 1]'(by omega) = x := ⟨_, rfl⟩;rw [hx] at d0 d1;rw [hx2] at e0 e1;dsimp only at d0 d1 e0 e1;have HX := jQ (show (f.st[k]'(by omega)).2 = x by rw [hx]);have HX2 := jQ (show (f.st[k + 1]'(by omega)).2 = x2 by rw [hx2]);have hB2 := hB.alloc hB.size (.cells #[.string ⟨n2.toArray⟩, .int .i64 x2] 66);have hK2 := hK.alloc (.cells #[.string ⟨n2.toArray⟩, .int .i64 x2] 66);have HB2 := jQ hB2;have HK2 := jQ hK2;have g0 := (hK.cell 0).trans rfl;have gl := hK.lt;have hkl : k < f.st.length := by omega
  rcases hq : decide (x2 <= x) with _ | _
  ·have hlt2 : x < x2 := by have := of_decide_eq_false hq; omega
   have HLT := jQ hlt2;clear hup hx hx2 hB hK hB2 hK2 hR hlt2 hb1 hb2;go_wp2_with fail;go_quiet (fail);go_wp2_with fail;go_roundw
   case rel =>
    refine ⟨k + 1, by omega, by go_num, fun j h hj => ?_, ⟨HB2.o.os, HB2.o.tape, HB2.o.output, HB2.o.size, HB2.o.block⟩, HK2.o⟩;by_cases e : j = k
    ·subst e;rw [HX.o, HX2.o];exact HLT.o
    exact HA.o j h (by omega)
   case measure => simp [intOf]; omega
  have hno : R = false := by
   rw [HR.o];have : Dd.upF (f.st.map (·.2)) = false := by
    rw [<- Bool.not_eq_true, HUP.o];intro h;have := h k (by omega);rw [HX.o, HX2.o] at this;have := of_decide_eq_true hq;omega
   rw [this];rfl
  have HNO := jQ hno;clear hup hx hx2 hB hK hB2 hK2 hR hno hb1 hb2;go_wp2_with fail;go_quiet (fail);go_wp2_with fail;go_ret;exact ⟨y00 HNO.o.symm, HB2.o.os, HB2.o.tape, HB2.o.output, HB2.o.size, HB2.o.block⟩
 obtain rfl : k = f.st.length - 1 := by omega
 have hup : Dd.upF (f.st.map (·.2)) = true := HUP.o.2 fun j h => HA.o j h (by omega);have hr2 : Dd.clearA (f.pa.take 0) (f.pa.drop 0) = R := by rw [HR.o, hup, Bool.true_and]; simp
 have HR2 := jQ hr2;have c2 := (hK.cell 2).trans rfl;have lk := hK.lt;have HK := jQ hK;have HB := jQ hB;clear hup hr2 hK hB HA HR HUP;go_wp2_with fail;go_loopw [30] (fun I wx => ∃ k : Nat, k <= f.pa.length /\ I = .int .i64 k /\ Dd.clearA (f.pa.take k) (f.pa.drop k) = R /\ Below w.heap.size w wx /\ Bk wx w.heap.size 27 #[.slice (some ⟨b, off, none⟩) f.st.length v.c1, .slice v.a2 f.li.length v.c2, .slice v.a3 f.pa.length v.c3, .slice v.a4 f.va.length v.c4])
  (fun I _ => f.pa.length - (intOf I).toNat)
 case atStart => exact ⟨0, Nat.zero_le _, rfl, HR2.o, HB.o, HK.o⟩
 clear HB HK c2 lk HR2;obtain ⟨k, hk, rfl, hF, hB, hK⟩ := hrel;by_cases hlt : k < f.pa.length
 ·have hRp := HF.o.pa.below hB (Nat.le_refl _);obtain ⟨b3, off3, ha3, hb3, e0, e1, e2, e3⟩ := hRp.parcel hlt;have hb3w : b3 < wr.heap.size := Nat.lt_of_lt_of_le hb3 hB.size;have hst := HCL.o k hlt;rw [hF] at hst;obtain ⟨x, hx⟩ := zE (f.pa[k]);rw [hx] at e0 e1 e2 e3 hst;obtain ⟨n, so, we, ea⟩ := x;dsimp only at e0 e1 e2 e3 hst;have hB2 := hB.alloc hB.size (.cells #[.string ⟨n.toArray⟩, .int .i64 so, .int .i64 we, .int .i64 ea] 68);have hK2 := hK.alloc (.cells #[.string ⟨n.toArray⟩, .int .i64 so, .int .i64 we, .int .i64 ea] 68);have kp := Bk.new wr 68 #[.string ⟨n.toArray⟩, .int .i64 so, .int .i64 we, .int .i64 ea];have hsz := (Below.refl wr.heap.size wr).alloc (Nat.le_refl _) (.cells #[.string ⟨n.toArray⟩, .int .i64 so, .int .i64 we, .int .i64 ea] 68);have hlk : (f.pa.take k).length = k := by rw [List.length_take]; omega
  have hcon := y5d 138 #[.pointer (some ⟨wr.heap.size, 0, none⟩)] (Dd.hits ⟨n, so, we, ea⟩) (some ⟨b3, off3, none⟩) v.c3 (f.pa.take k) _ (by rw [<- ha3]; exact (((hRp.takePa (Nat.le_of_lt hlt)).below (hsz.mono hB.size) (Nat.le_refl _)).more (Nat.le_trans hB.size hsz.size))) (by omega) (enters_of Tryz.func138 (by kernel_rfl) rfl)
   (fun y hy V hb => y64 ⟨n, so, we, ea⟩ y wr.heap.size V (kp.below hb kp.lt))
  rw [hlk] at hcon;obtain ⟨z, hz⟩ := zE ((f.pa.take k).any (Dd.hits ⟨n, so, we, ea⟩));rw [hz] at hcon hst;have g2 := (hK.cell 2).trans rfl;have gl := hK.lt;have HC := jQ hcon;have HB2 := jQ hB2;have HK2 := jQ hK2;have HST := jQ hst;have hkc : k <= v.c3 := by omega
  clear hcon hB hK hB2 hK2 kp hsz hRp hF hst hz;rw [ha3] at g2;rcases hq : decide (ea <= we) with _ | _
  ·have h3 : decide (we < ea) = true := decide_eq_true (by have := of_decide_eq_false hq; omega);have HST := jQ (show R = (!z && Dd.clearA (f.pa.take (k + 1)) (f.pa.drop (k + 1))) by rw [HST.o, h3, Bool.true_and]);clear hx h3;rw [ha3];go_wp2_with fail;refine HC.o.mono ?_;rintro e w1 ⟨rfl, hb4⟩;have HB3 := jQ (HB2.o.trans (hb4.mono HB2.o.size));have HK3 := jQ (HK2.o.below hb4 HK2.o.lt);clear hb4;rcases z with _ | _
   ·have hs := HST.o;simp only [Bool.not_false, Bool.true_and] at hs;have HS := jQ hs.symm;clear hs;go_wp2_with fail;go_roundw
    case rel => exact ⟨k + 1, by omega, by go_num, HS.o, HB3.o, by rw [<- ha3] at *; exact HK3.o⟩
    case measure => simp [intOf]; omega
   have hs := HST.o;simp only [Bool.not_true, Bool.false_and] at hs;have HS := jQ hs.symm;clear hs;go_wp2_with fail;go_ret;exact ⟨y00 HS.o, HB3.o⟩
  have h3 : decide (we < ea) = false := decide_eq_false (by have := of_decide_eq_true hq; omega);have HS := jQ (show false = R by rw [HST.o, h3, Bool.false_and, Bool.false_and]);clear hx h3 HST;rw [ha3];go_wp2_with fail;go_ret;exact ⟨y00 HS.o, HB2.o⟩
 obtain rfl : k = f.pa.length := by omega
 rw [List.drop_length] at hF;have HS := jQ (show true = R from hF);have HB := jQ hB;clear hF hB hK;go_wp2_with fail;go_ret;exact ⟨y00 HS.o, HB.o⟩
end

section
open Go.RowKit
structure Fs (w : World) (g : Nat) (v : Fv) (f : Dd.Fd) (W : World) : Prop where
 b : Below w.heap.size w W
 k : Bk W g 27 #[.slice v.a1 f.st.length v.c1, .slice v.a2 f.li.length v.c2, .slice v.a3 f.pa.length v.c3, .slice v.a4 f.va.length v.c4]
 r : FRd W w.heap.size v f
theorem Fs.next {w : World} {g : Nat} {v : Fv} {f : Dd.Fd} {W W' : World} (h : Fs w g v f W) (hb : Below W.heap.size W W') : Fs w g v f W' :=
 ⟨h.b.trans (hb.mono h.b.size), h.k.below hb h.k.lt, h.r.below hb h.b.size⟩
theorem Fs.rd {w : World} {g : Nat} {v : Fv} {f : Dd.Fd} {W : World} (h : Fs w g v f W) : FRd W W.heap.size v f := h.r.more h.b.size
theorem Fs.cells {w : World} {g : Nat} {v : Fv} {f : Dd.Fd} {W : World} (h : Fs w g v f W) : W.cell? ⟨g, 0, none⟩ = some (.slice v.a1 f.st.length v.c1) /\ W.cell? ⟨g, 1, none⟩ = some (.slice v.a2 f.li.length v.c2) /\
  W.cell? ⟨g, 2, none⟩ = some (.slice v.a3 f.pa.length v.c3) /\ W.cell? ⟨g, 3, none⟩ = some (.slice v.a4 f.va.length v.c4) /\ g < W.heap.size :=
 ⟨(h.k.cell 0).trans rfl, (h.k.cell 1).trans rfl, (h.k.cell 2).trans rfl, (h.k.cell 3).trans rfl, h.k.lt⟩
theorem Fs.new {w : World} {v : Fv} {f : Dd.Fd} (h : FRd w w.heap.size v f) : Fs w w.heap.size v f (w.alloc (.cells #[.slice v.a1 f.st.length v.c1, .slice v.a2 f.li.length v.c2, .slice v.a3 f.pa.length v.c3, .slice v.a4 f.va.length v.c4] 27)) :=
 have hb := (Below.refl w.heap.size w).alloc (Nat.le_refl _) (.cells #[.slice v.a1 f.st.length v.c1, .slice v.a2 f.li.length v.c2, .slice v.a3 f.pa.length v.c3, .slice v.a4 f.va.length v.c4] 27)
 ⟨hb, Bk.new _ _ _, h.below hb (Nat.le_refl _)⟩
set_option maxHeartbeats 16000000 in
theorem y0Y (v : Fv) (f : Dd.Fd) (w : World) (hF : FRd w w.heap.size v f) :
  Calls Tryz.prog 35 #[fval v f] w fun e w' => e = .returned (.int .i64 (Dd.fieldE f)) /\ Below w.heap.size w w' := by
 have hfe : Dd.fieldE f = if 12 < f.st.length ∨ 10 < f.li.length ∨ 40 < f.pa.length then 2 else if f.st.length < 2 ∨ f.li.length = 0 then 5 else if Cs.varsE f.va ≠ 0 then Cs.varsE f.va
   else if Dd.namesF f = false then 4 else if Dd.distF f = false then 6 else if Dd.rangeF f = false then 1 else if Dd.orderF f = false then 30 else 0 := rfl
 have hnf : Dd.namesF f = ((f.st.map (·.1)).all Dd.nameF && f.li.all Dd.nameF && (f.pa.map (·.name)).all Dd.nameF) := rfl;have hdf : Dd.distF f = (Dd.dist (f.st.map (·.1)) && Dd.dist f.li && Dd.dist (f.pa.map (·.name))) := rfl;have hl1 := hF.l1;have hl2 := hF.l2;have hl3 := hF.l3;have hl4 := hF.l4;have S0 := jQ (Fs.new hF);have B0 := jQ (fun W (h : Fs w w.heap.size v f W) => y0k v.a4 v.c4 f.va W h.rd.va hl4);have B1 := jQ (fun W (h : Fs w w.heap.size v f W) => y9D v.a1 v.c1 f.st W h.rd.st hl1 h.r.n1);have B2 := jQ (fun W (h : Fs w w.heap.size v f W) => y9E v.a2 v.c2 f.li W h.rd.li hl2 h.r.n2);have B3 := jQ (fun W (h : Fs w w.heap.size v f W) => y9C v.a3 v.c3 f.pa W h.rd.pa hl3 h.r.n3);have B4 := jQ (fun W (h : Fs w w.heap.size v f W) => y8V v.a1 v.c1 f.st W h.rd.st hl1 h.r.k1);have B5 := jQ (fun W (h : Fs w w.heap.size v f W) => y8W v.a2 v.c2 f.li W h.rd.li hl2 h.r.k2);have B6 := jQ (fun W (h : Fs w w.heap.size v f W) => y8U v.a3 v.c3 f.pa W h.rd.pa hl3 h.r.k3);have hfv : fval v f = .agg #[.slice v.a1 f.st.length v.c1, .slice v.a2 f.li.length v.c2, .slice v.a3 f.pa.length v.c3, .slice v.a4 f.va.length v.c4] := rfl;have B7 := jQ (fun W (h : Fs w w.heap.size v f W) => y73 v f W h.rd);have B8 := jQ (fun (h2 : 2 <= f.st.length) W (h : Fs w w.heap.size v f W) => y72 v f W h.rd h2);rw [hfv] at B7 B8 ⊢;clear hF hfv;obtain ⟨E, hE⟩ := zE (Dd.fieldE f);rw [hE] at hfe ⊢;obtain ⟨z1, hz1⟩ := zE ((f.st.map (·.1)).all Dd.nameF);obtain ⟨z2, hz2⟩ := zE (f.li.all Dd.nameF);obtain ⟨z3, hz3⟩ := zE ((f.pa.map (·.name)).all Dd.nameF);obtain ⟨z4, hz4⟩ := zE (Dd.dist (f.st.map (·.1)));obtain ⟨z5, hz5⟩ := zE (Dd.dist f.li);obtain ⟨z6, hz6⟩ := zE (Dd.dist (f.pa.map (·.name)));obtain ⟨z7, hz7⟩ := zE (Dd.rangeF f);obtain ⟨z8, hz8⟩ := zE (Dd.orderF f);obtain ⟨ev, hev⟩ := zE (Cs.varsE f.va);rw [hz1, hz2, hz3] at hnf;rw [hz4, hz5, hz6] at hdf;rw [hnf, hdf, hz7, hz8, hev] at hfe;rw [hev] at B0;rw [hz1] at B1;rw [hz2] at B2;rw [hz3] at B3;rw [hz4] at B4;rw [hz5] at B5;rw [hz6] at B6;rw [hz7] at B7;rw [hz8] at B8;clear hE hz1 hz2 hz3 hz4 hz5 hz6 hz7 hz8 hev hnf hdf hl1 hl2 hl3 hl4;rcases d1 : decide (12 < (f.st.length : Int)) with _ | _
 case true =>
  have HE := jQ (show E = 2 by rw [hfe, if_pos (.inl (by have := of_decide_eq_true d1; omega))]);clear hfe;obtain ⟨c0, c1, c2, c3, lg⟩ := S0.o.cells;go_enter Tryz.func35, Tryz.ntmps35;go_wp2_with fail;go_ret;exact ⟨y02 HE.o.symm, S0.o.b⟩
 rcases d2 : decide (10 < (f.li.length : Int)) with _ | _
 case true =>
  have HE := jQ (show E = 2 by rw [hfe, if_pos (.inr (.inl (by have := of_decide_eq_true d2; omega)))]);clear hfe;obtain ⟨c0, c1, c2, c3, lg⟩ := S0.o.cells;go_enter Tryz.func35, Tryz.ntmps35;go_wp2_with fail;go_ret;exact ⟨y02 HE.o.symm, S0.o.b⟩
 rcases d3 : decide (40 < (f.pa.length : Int)) with _ | _
 case true =>
  have HE := jQ (show E = 2 by rw [hfe, if_pos (.inr (.inr (by have := of_decide_eq_true d3; omega)))]);clear hfe;obtain ⟨c0, c1, c2, c3, lg⟩ := S0.o.cells;go_enter Tryz.func35, Tryz.ntmps35;go_wp2_with fail;go_ret;exact ⟨y02 HE.o.symm, S0.o.b⟩
 rw [if_neg (by have := of_decide_eq_false d1; have := of_decide_eq_false d2; have := of_decide_eq_false d3; omega)] at hfe;rcases d4 : decide ((f.st.length : Int) < 2) with _ | _
 case true =>
  have HE := jQ (show E = 5 by rw [hfe, if_pos (.inl (by have := of_decide_eq_true d4; omega))]);clear hfe;obtain ⟨c0, c1, c2, c3, lg⟩ := S0.o.cells;go_enter Tryz.func35, Tryz.ntmps35;go_wp2_with fail;go_ret;exact ⟨y02 HE.o.symm, S0.o.b⟩
 rcases d5 : ((f.li.length : Int) == 0) with _ | _
 case true =>
  have HE := jQ (show E = 5 by rw [hfe, if_pos (.inr (by have := beq_iff_eq.1 d5; omega))]);clear hfe;obtain ⟨c0, c1, c2, c3, lg⟩ := S0.o.cells;go_enter Tryz.func35, Tryz.ntmps35;go_wp2_with fail;go_ret;exact ⟨y02 HE.o.symm, S0.o.b⟩
 rw [if_neg (by have := of_decide_eq_false d4; have := beq_eq_false_iff_ne.1 d5; omega)] at hfe;have h2 : 2 <= f.st.length := by have := of_decide_eq_false d4; omega
 by_cases hev : ev = 0
 case neg =>
  have d6 : (ev != 0) = true := by simp [hev]
  have HE := jQ (show E = ev by rw [hfe, if_pos hev]);clear hfe;obtain ⟨c0, c1, c2, c3, lg⟩ := S0.o.cells;go_enter Tryz.func35, Tryz.ntmps35;go_wp2_with fail;refine (B0.o _ S0.o).mono ?_;rintro e w1 ⟨rfl, hb⟩;have S1 := jQ (S0.o.next hb);clear hb c0 c1 c2 c3 lg;obtain ⟨c0, c1, c2, c3, lg⟩ := S1.o.cells;go_wp2_with fail;go_ret;exact ⟨y02 HE.o.symm, S1.o.b⟩
 subst hev;rw [if_neg (by simp)] at hfe;cases z1
 case false =>
  have HE := jQ (show E = 4 by rw [hfe]; simp);clear hfe;obtain ⟨c0, c1, c2, c3, lg⟩ := S0.o.cells;go_enter Tryz.func35, Tryz.ntmps35;go_wp2_with fail;refine (B0.o _ S0.o).mono ?_;rintro e w1 ⟨rfl, hb⟩;have S1 := jQ (S0.o.next hb);clear hb c0 c1 c2 c3 lg;obtain ⟨c0, c1, c2, c3, lg⟩ := S1.o.cells;go_wp2_with fail;refine (B1.o _ S1.o).mono ?_;rintro e w2 ⟨rfl, hb⟩;have S2 := jQ (S1.o.next hb);clear hb c0 c1 c2 c3 lg;obtain ⟨c0, c1, c2, c3, lg⟩ := S2.o.cells;go_wp2_with fail;go_ret;exact ⟨y02 HE.o.symm, S2.o.b⟩
 cases z2
 case false =>
  have HE := jQ (show E = 4 by rw [hfe]; simp);clear hfe;obtain ⟨c0, c1, c2, c3, lg⟩ := S0.o.cells;go_enter Tryz.func35, Tryz.ntmps35;go_wp2_with fail;refine (B0.o _ S0.o).mono ?_;rintro e w1 ⟨rfl, hb⟩;have S1 := jQ (S0.o.next hb);clear hb c0 c1 c2 c3 lg;obtain ⟨c0, c1, c2, c3, lg⟩ := S1.o.cells;go_wp2_with fail;refine (B1.o _ S1.o).mono ?_;rintro e w2 ⟨rfl, hb⟩;have S2 := jQ (S1.o.next hb);clear hb c0 c1 c2 c3 lg;obtain ⟨c0, c1, c2, c3, lg⟩ := S2.o.cells;go_wp2_with fail;refine (B2.o _ S2.o).mono ?_;rintro e w3 ⟨rfl, hb⟩;have S3 := jQ (S2.o.next hb);clear hb c0 c1 c2 c3 lg;obtain ⟨c0, c1, c2, c3, lg⟩ := S3.o.cells;go_wp2_with fail;go_ret;exact ⟨y02 HE.o.symm, S3.o.b⟩
 cases z3
 case false =>
  have HE := jQ (show E = 4 by rw [hfe]; simp);clear hfe;obtain ⟨c0, c1, c2, c3, lg⟩ := S0.o.cells;go_enter Tryz.func35, Tryz.ntmps35;go_wp2_with fail;refine (B0.o _ S0.o).mono ?_;rintro e w1 ⟨rfl, hb⟩;have S1 := jQ (S0.o.next hb);clear hb c0 c1 c2 c3 lg;obtain ⟨c0, c1, c2, c3, lg⟩ := S1.o.cells;go_wp2_with fail;refine (B1.o _ S1.o).mono ?_;rintro e w2 ⟨rfl, hb⟩;have S2 := jQ (S1.o.next hb);clear hb c0 c1 c2 c3 lg;obtain ⟨c0, c1, c2, c3, lg⟩ := S2.o.cells;go_wp2_with fail;refine (B2.o _ S2.o).mono ?_;rintro e w3 ⟨rfl, hb⟩;have S3 := jQ (S2.o.next hb);clear hb c0 c1 c2 c3 lg;obtain ⟨c0, c1, c2, c3, lg⟩ := S3.o.cells;go_wp2_with fail;refine (B3.o _ S3.o).mono ?_;rintro e w4 ⟨rfl, hb⟩;have S4 := jQ (S3.o.next hb);clear hb c0 c1 c2 c3 lg;obtain ⟨c0, c1, c2, c3, lg⟩ := S4.o.cells;go_wp2_with fail;go_ret;exact ⟨y02 HE.o.symm, S4.o.b⟩
 rw [if_neg (by simp)] at hfe;cases z4
 case false =>
  have HE := jQ (show E = 6 by rw [hfe]; simp);clear hfe;obtain ⟨c0, c1, c2, c3, lg⟩ := S0.o.cells;go_enter Tryz.func35, Tryz.ntmps35;go_wp2_with fail;refine (B0.o _ S0.o).mono ?_;rintro e w1 ⟨rfl, hb⟩;have S1 := jQ (S0.o.next hb);clear hb c0 c1 c2 c3 lg;obtain ⟨c0, c1, c2, c3, lg⟩ := S1.o.cells;go_wp2_with fail;refine (B1.o _ S1.o).mono ?_;rintro e w2 ⟨rfl, hb⟩;have S2 := jQ (S1.o.next hb);clear hb c0 c1 c2 c3 lg;obtain ⟨c0, c1, c2, c3, lg⟩ := S2.o.cells;go_wp2_with fail;refine (B2.o _ S2.o).mono ?_;rintro e w3 ⟨rfl, hb⟩;have S3 := jQ (S2.o.next hb);clear hb c0 c1 c2 c3 lg;obtain ⟨c0, c1, c2, c3, lg⟩ := S3.o.cells;go_wp2_with fail;refine (B3.o _ S3.o).mono ?_;rintro e w4 ⟨rfl, hb⟩;have S4 := jQ (S3.o.next hb);clear hb c0 c1 c2 c3 lg;obtain ⟨c0, c1, c2, c3, lg⟩ := S4.o.cells;go_wp2_with fail;refine (B4.o _ S4.o).mono ?_;rintro e w5 ⟨rfl, hb⟩;have S5 := jQ (S4.o.next hb);clear hb c0 c1 c2 c3 lg;obtain ⟨c0, c1, c2, c3, lg⟩ := S5.o.cells;go_wp2_with fail;go_ret;exact ⟨y02 HE.o.symm, S5.o.b⟩
 cases z5
 case false =>
  have HE := jQ (show E = 6 by rw [hfe]; simp);clear hfe;obtain ⟨c0, c1, c2, c3, lg⟩ := S0.o.cells;go_enter Tryz.func35, Tryz.ntmps35;go_wp2_with fail;refine (B0.o _ S0.o).mono ?_;rintro e w1 ⟨rfl, hb⟩;have S1 := jQ (S0.o.next hb);clear hb c0 c1 c2 c3 lg;obtain ⟨c0, c1, c2, c3, lg⟩ := S1.o.cells;go_wp2_with fail;refine (B1.o _ S1.o).mono ?_;rintro e w2 ⟨rfl, hb⟩;have S2 := jQ (S1.o.next hb);clear hb c0 c1 c2 c3 lg;obtain ⟨c0, c1, c2, c3, lg⟩ := S2.o.cells;go_wp2_with fail;refine (B2.o _ S2.o).mono ?_;rintro e w3 ⟨rfl, hb⟩;have S3 := jQ (S2.o.next hb);clear hb c0 c1 c2 c3 lg;obtain ⟨c0, c1, c2, c3, lg⟩ := S3.o.cells;go_wp2_with fail;refine (B3.o _ S3.o).mono ?_;rintro e w4 ⟨rfl, hb⟩;have S4 := jQ (S3.o.next hb);clear hb c0 c1 c2 c3 lg;obtain ⟨c0, c1, c2, c3, lg⟩ := S4.o.cells;go_wp2_with fail;refine (B4.o _ S4.o).mono ?_;rintro e w5 ⟨rfl, hb⟩;have S5 := jQ (S4.o.next hb);clear hb c0 c1 c2 c3 lg;obtain ⟨c0, c1, c2, c3, lg⟩ := S5.o.cells;go_wp2_with fail;refine (B5.o _ S5.o).mono ?_;rintro e w6 ⟨rfl, hb⟩;have S6 := jQ (S5.o.next hb);clear hb c0 c1 c2 c3 lg;obtain ⟨c0, c1, c2, c3, lg⟩ := S6.o.cells;go_wp2_with fail;go_ret;exact ⟨y02 HE.o.symm, S6.o.b⟩
 cases z6
 case false =>
  have HE := jQ (show E = 6 by rw [hfe]; simp);clear hfe;obtain ⟨c0, c1, c2, c3, lg⟩ := S0.o.cells;go_enter Tryz.func35, Tryz.ntmps35;go_wp2_with fail;refine (B0.o _ S0.o).mono ?_;rintro e w1 ⟨rfl, hb⟩;have S1 := jQ (S0.o.next hb);clear hb c0 c1 c2 c3 lg;obtain ⟨c0, c1, c2, c3, lg⟩ := S1.o.cells;go_wp2_with fail;refine (B1.o _ S1.o).mono ?_;rintro e w2 ⟨rfl, hb⟩;have S2 := jQ (S1.o.next hb);clear hb c0 c1 c2 c3 lg;obtain ⟨c0, c1, c2, c3, lg⟩ := S2.o.cells;go_wp2_with fail;refine (B2.o _ S2.o).mono ?_;rintro e w3 ⟨rfl, hb⟩;have S3 := jQ (S2.o.next hb);clear hb c0 c1 c2 c3 lg;obtain ⟨c0, c1, c2, c3, lg⟩ := S3.o.cells;go_wp2_with fail;refine (B3.o _ S3.o).mono ?_;rintro e w4 ⟨rfl, hb⟩;have S4 := jQ (S3.o.next hb);clear hb c0 c1 c2 c3 lg;obtain ⟨c0, c1, c2, c3, lg⟩ := S4.o.cells;go_wp2_with fail;refine (B4.o _ S4.o).mono ?_;rintro e w5 ⟨rfl, hb⟩;have S5 := jQ (S4.o.next hb);clear hb c0 c1 c2 c3 lg;obtain ⟨c0, c1, c2, c3, lg⟩ := S5.o.cells;go_wp2_with fail;refine (B5.o _ S5.o).mono ?_;rintro e w6 ⟨rfl, hb⟩;have S6 := jQ (S5.o.next hb);clear hb c0 c1 c2 c3 lg;obtain ⟨c0, c1, c2, c3, lg⟩ := S6.o.cells;go_wp2_with fail;refine (B6.o _ S6.o).mono ?_;rintro e w7 ⟨rfl, hb⟩;have S7 := jQ (S6.o.next hb);clear hb c0 c1 c2 c3 lg;obtain ⟨c0, c1, c2, c3, lg⟩ := S7.o.cells;go_wp2_with fail;go_ret;exact ⟨y02 HE.o.symm, S7.o.b⟩
 rw [if_neg (by simp)] at hfe;cases z7
 case false =>
  have HE := jQ (show E = 1 by rw [hfe]; simp);clear hfe;obtain ⟨c0, c1, c2, c3, lg⟩ := S0.o.cells;go_enter Tryz.func35, Tryz.ntmps35;go_wp2_with fail;refine (B0.o _ S0.o).mono ?_;rintro e w1 ⟨rfl, hb⟩;have S1 := jQ (S0.o.next hb);clear hb c0 c1 c2 c3 lg;obtain ⟨c0, c1, c2, c3, lg⟩ := S1.o.cells;go_wp2_with fail;refine (B1.o _ S1.o).mono ?_;rintro e w2 ⟨rfl, hb⟩;have S2 := jQ (S1.o.next hb);clear hb c0 c1 c2 c3 lg;obtain ⟨c0, c1, c2, c3, lg⟩ := S2.o.cells;go_wp2_with fail;refine (B2.o _ S2.o).mono ?_;rintro e w3 ⟨rfl, hb⟩;have S3 := jQ (S2.o.next hb);clear hb c0 c1 c2 c3 lg;obtain ⟨c0, c1, c2, c3, lg⟩ := S3.o.cells;go_wp2_with fail;refine (B3.o _ S3.o).mono ?_;rintro e w4 ⟨rfl, hb⟩;have S4 := jQ (S3.o.next hb);clear hb c0 c1 c2 c3 lg;obtain ⟨c0, c1, c2, c3, lg⟩ := S4.o.cells;go_wp2_with fail;refine (B4.o _ S4.o).mono ?_;rintro e w5 ⟨rfl, hb⟩;have S5 := jQ (S4.o.next hb);clear hb c0 c1 c2 c3 lg;obtain ⟨c0, c1, c2, c3, lg⟩ := S5.o.cells;go_wp2_with fail;refine (B5.o _ S5.o).mono ?_;rintro e w6 ⟨rfl, hb⟩;have S6 := jQ (S5.o.next hb);clear hb c0 c1 c2 c3 lg;obtain ⟨c0, c1, c2, c3, lg⟩ := S6.o.cells;go_wp2_with fail;refine (B6.o _ S6.o).mono ?_;rintro e w7 ⟨rfl, hb⟩;have S7 := jQ (S6.o.next hb);clear hb c0 c1 c2 c3 lg;obtain ⟨c0, c1, c2, c3, lg⟩ := S7.o.cells;go_wp2_with fail;refine (B7.o _ S7.o).mono ?_;rintro e w8 ⟨rfl, hb⟩;have S8 := jQ (S7.o.next hb);clear hb c0 c1 c2 c3 lg;obtain ⟨c0, c1, c2, c3, lg⟩ := S8.o.cells;go_wp2_with fail;go_ret;exact ⟨y02 HE.o.symm, S8.o.b⟩
 rw [if_neg (by simp)] at hfe;cases z8
 case false =>
  have HE := jQ (show E = 30 by rw [hfe]; simp);clear hfe;obtain ⟨c0, c1, c2, c3, lg⟩ := S0.o.cells;go_enter Tryz.func35, Tryz.ntmps35;go_wp2_with fail;refine (B0.o _ S0.o).mono ?_;rintro e w1 ⟨rfl, hb⟩;have S1 := jQ (S0.o.next hb);clear hb c0 c1 c2 c3 lg;obtain ⟨c0, c1, c2, c3, lg⟩ := S1.o.cells;go_wp2_with fail;refine (B1.o _ S1.o).mono ?_;rintro e w2 ⟨rfl, hb⟩;have S2 := jQ (S1.o.next hb);clear hb c0 c1 c2 c3 lg;obtain ⟨c0, c1, c2, c3, lg⟩ := S2.o.cells;go_wp2_with fail;refine (B2.o _ S2.o).mono ?_;rintro e w3 ⟨rfl, hb⟩;have S3 := jQ (S2.o.next hb);clear hb c0 c1 c2 c3 lg;obtain ⟨c0, c1, c2, c3, lg⟩ := S3.o.cells;go_wp2_with fail;refine (B3.o _ S3.o).mono ?_;rintro e w4 ⟨rfl, hb⟩;have S4 := jQ (S3.o.next hb);clear hb c0 c1 c2 c3 lg;obtain ⟨c0, c1, c2, c3, lg⟩ := S4.o.cells;go_wp2_with fail;refine (B4.o _ S4.o).mono ?_;rintro e w5 ⟨rfl, hb⟩;have S5 := jQ (S4.o.next hb);clear hb c0 c1 c2 c3 lg;obtain ⟨c0, c1, c2, c3, lg⟩ := S5.o.cells;go_wp2_with fail;refine (B5.o _ S5.o).mono ?_;rintro e w6 ⟨rfl, hb⟩;have S6 := jQ (S5.o.next hb);clear hb c0 c1 c2 c3 lg;obtain ⟨c0, c1, c2, c3, lg⟩ := S6.o.cells;go_wp2_with fail;refine (B6.o _ S6.o).mono ?_;rintro e w7 ⟨rfl, hb⟩;have S7 := jQ (S6.o.next hb);clear hb c0 c1 c2 c3 lg;obtain ⟨c0, c1, c2, c3, lg⟩ := S7.o.cells;go_wp2_with fail;refine (B7.o _ S7.o).mono ?_;rintro e w8 ⟨rfl, hb⟩;have S8 := jQ (S7.o.next hb);clear hb c0 c1 c2 c3 lg;obtain ⟨c0, c1, c2, c3, lg⟩ := S8.o.cells;go_wp2_with fail;refine (B8.o h2 _ S8.o).mono ?_;rintro e w9 ⟨rfl, hb⟩;have S9 := jQ (S8.o.next hb);clear hb c0 c1 c2 c3 lg;obtain ⟨c0, c1, c2, c3, lg⟩ := S9.o.cells;go_wp2_with fail;go_ret;exact ⟨y02 HE.o.symm, S9.o.b⟩
 rw [if_neg (by simp)] at hfe;have HE := jQ (show E = 0 by exact hfe);clear hfe;obtain ⟨c0, c1, c2, c3, lg⟩ := S0.o.cells;go_enter Tryz.func35, Tryz.ntmps35;go_wp2_with fail;refine (B0.o _ S0.o).mono ?_;rintro e w1 ⟨rfl, hb⟩;have S1 := jQ (S0.o.next hb);clear hb c0 c1 c2 c3 lg;obtain ⟨c0, c1, c2, c3, lg⟩ := S1.o.cells;go_wp2_with fail;refine (B1.o _ S1.o).mono ?_;rintro e w2 ⟨rfl, hb⟩;have S2 := jQ (S1.o.next hb);clear hb c0 c1 c2 c3 lg;obtain ⟨c0, c1, c2, c3, lg⟩ := S2.o.cells;go_wp2_with fail;refine (B2.o _ S2.o).mono ?_;rintro e w3 ⟨rfl, hb⟩;have S3 := jQ (S2.o.next hb);clear hb c0 c1 c2 c3 lg;obtain ⟨c0, c1, c2, c3, lg⟩ := S3.o.cells;go_wp2_with fail;refine (B3.o _ S3.o).mono ?_;rintro e w4 ⟨rfl, hb⟩;have S4 := jQ (S3.o.next hb);clear hb c0 c1 c2 c3 lg;obtain ⟨c0, c1, c2, c3, lg⟩ := S4.o.cells;go_wp2_with fail;refine (B4.o _ S4.o).mono ?_;rintro e w5 ⟨rfl, hb⟩;have S5 := jQ (S4.o.next hb);clear hb c0 c1 c2 c3 lg;obtain ⟨c0, c1, c2, c3, lg⟩ := S5.o.cells;go_wp2_with fail;refine (B5.o _ S5.o).mono ?_;rintro e w6 ⟨rfl, hb⟩;have S6 := jQ (S5.o.next hb);clear hb c0 c1 c2 c3 lg;obtain ⟨c0, c1, c2, c3, lg⟩ := S6.o.cells;go_wp2_with fail;refine (B6.o _ S6.o).mono ?_;rintro e w7 ⟨rfl, hb⟩;have S7 := jQ (S6.o.next hb);clear hb c0 c1 c2 c3 lg;obtain ⟨c0, c1, c2, c3, lg⟩ := S7.o.cells;go_wp2_with fail;refine (B7.o _ S7.o).mono ?_;rintro e w8 ⟨rfl, hb⟩;have S8 := jQ (S7.o.next hb);clear hb c0 c1 c2 c3 lg;obtain ⟨c0, c1, c2, c3, lg⟩ := S8.o.cells;go_wp2_with fail;refine (B8.o h2 _ S8.o).mono ?_;rintro e w9 ⟨rfl, hb⟩;have S9 := jQ (S8.o.next hb);clear hb c0 c1 c2 c3 lg;obtain ⟨c0, c1, c2, c3, lg⟩ := S9.o.cells;go_wp2_with fail;go_ret;exact ⟨y02 HE.o.symm, S9.o.b⟩
end
end Go.Proofs.YtccikcpcfdjobaaGreatDoor
