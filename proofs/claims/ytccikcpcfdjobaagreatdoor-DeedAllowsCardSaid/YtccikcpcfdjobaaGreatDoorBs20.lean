/-
  What the claim needs: contracts.
-/
import Derived.Test.YtccikcpcfdjobaaGreatDoorBs15
import Derived.Test.YtccikcpcfdjobaaGreatDoorBs18
set_option linter.unusedVariables false
set_option linter.unusedSimpArgs false
set_option maxHeartbeats 8000000
set_option maxRecDepth 100000
namespace Go.Proofs.YtccikcpcfdjobaaGreatDoor
section
open Go.RowKit
theorem Dd.y7L {f : Dd.Fd} (hr : Dd.rangeF f = true) (h1 : f.st.length <= 12) : ∀ p ∈ f.pa, Dd.Small p := by
 unfold Dd.rangeF at hr;rw [Bool.and_eq_true, List.all_eq_true, List.all_eq_true] at hr;intro p hp;have := hr.2 p hp;unfold Dd.paOk Dd.isIx at this;simp only [Bool.and_eq_true, decide_eq_true_eq] at this;unfold Dd.Small;omega
set_option maxHeartbeats 16000000 in
theorem y1m (v : Fv) (f : Dd.Fd) (w : World) (hF : FRd w w.heap.size v f) :
  Calls Tryz.prog 36 #[fval v f] w fun e w' => e = .returned (.int .i64 (Dd.fieldE f)) /\ Below w.heap.size w w' := by
 have hfe : Dd.fieldE f = if 12 < f.st.length ∨ 10 < f.li.length ∨ 40 < f.pa.length then 2 else if f.st.length < 2 ∨ f.li.length = 0 then 5 else if Cs.varsE f.va ≠ 0 then Cs.varsE f.va
   else if Dd.namesF f = false then 4 else if Dd.distF f = false then 6 else if Dd.rangeF f = false then 1 else if Dd.orderF f = false then 30 else 0 := rfl
 have hl1 := hF.l1;have hl2 := hF.l2;have hl3 := hF.l3;have hl4 := hF.l4;have S0 := jQ (Fs.new hF);have B0 := jQ (fun W (h : Fs w w.heap.size v f W) => y0h v.a4 v.c4 f.va W h.rd.va hl4);have B1 := jQ (fun (k : Nat) (hk : k < 3) (h1 : f.st.length <= 1000) (h2 : f.li.length <= 1000) (h3 : f.pa.length <= 1000) (h4 : 1 <= f.li.length) W (h : Fs w w.heap.size v f W) => y8u v f (k : Int) (by omega) W h.rd h1 h2 h3 h4);have B2 := jQ (fun (s : Cs.Bs) (hs : s.length <= 1000000) W => yAQ s hs W);have B7 := jQ (fun (hs : ∀ p ∈ f.pa, Dd.Small p) W (h : Fs w w.heap.size v f W) => y6A v f W h.rd hs);have HN1 := jQ hF.n1;have HN2 := jQ hF.n2;have HN3 := jQ hF.n3;simp only [y01] at B1 B7 ⊢;obtain ⟨E, hE⟩ := zE (Dd.fieldE f);rw [hE] at hfe ⊢;have HFE := jQ hfe;clear hF hfe hE;obtain ⟨f0, f1, f2, f3, fl⟩ := S0.o.cells;by_cases a1 : 12 < f.st.length
 ·have d1 : decide ((f.st.length : Int) > 12) = true := decide_eq_true (by omega);have HR := jQ (show E = 2 by rw [HFE.o, if_pos (Or.inl a1)]);go_enter Tryz.func36, Tryz.ntmps36;go_wp2_with fail;go_ret;exact ⟨y02 HR.o.symm, S0.o.b⟩
 have d1 : decide ((f.st.length : Int) > 12) = false := decide_eq_false (by omega);by_cases a2 : 10 < f.li.length
 ·have d2 : decide ((f.li.length : Int) > 10) = true := decide_eq_true (by omega);have HR := jQ (show E = 2 by rw [HFE.o, if_pos (Or.inr (Or.inl a2))]);go_enter Tryz.func36, Tryz.ntmps36;go_wp2_with fail;go_ret;exact ⟨y02 HR.o.symm, S0.o.b⟩
 have d2 : decide ((f.li.length : Int) > 10) = false := decide_eq_false (by omega);by_cases a3 : 40 < f.pa.length
 ·have d3 : decide ((f.pa.length : Int) > 40) = true := decide_eq_true (by omega);have HR := jQ (show E = 2 by rw [HFE.o, if_pos (Or.inr (Or.inr a3))]);go_enter Tryz.func36, Tryz.ntmps36;go_wp2_with fail;go_ret;exact ⟨y02 HR.o.symm, S0.o.b⟩
 have d3 : decide ((f.pa.length : Int) > 40) = false := decide_eq_false (by omega);have HFE := jQ (HFE.o.trans (if_neg (by omega)));by_cases a4 : f.st.length < 2
 ·have d4 : decide ((f.st.length : Int) < 2) = true := decide_eq_true (by omega);have HR := jQ (show E = 5 by rw [HFE.o, if_pos (Or.inl a4)]);go_enter Tryz.func36, Tryz.ntmps36;go_wp2_with fail;go_ret;exact ⟨y02 HR.o.symm, S0.o.b⟩
 have d4 : decide ((f.st.length : Int) < 2) = false := decide_eq_false (by omega);by_cases a5 : f.li.length < 1
 ·have d5 : decide ((f.li.length : Int) < 1) = true := decide_eq_true (by omega);have HR := jQ (show E = 5 by rw [HFE.o, if_pos (Or.inr (by omega))]);go_enter Tryz.func36, Tryz.ntmps36;go_wp2_with fail;go_ret;exact ⟨y02 HR.o.symm, S0.o.b⟩
 have d5 : decide ((f.li.length : Int) < 1) = false := decide_eq_false (by omega);have HFE := jQ (HFE.o.trans (if_neg (by omega)));have hs1 : f.st.length <= 12 := by omega
 have hs2 : f.li.length <= 10 := by omega
 have hs3 : f.pa.length <= 40 := by omega
 have hs4 : 1 <= f.li.length := by omega
 have hs5 : 2 <= f.st.length := by omega
 have HTXT := jQ (fun k => Dd.y8r HN1.o HN2.o HN3.o k);have HLEN := jQ (fun k => Dd.y8q (f := f) (n := 40) (by omega) (by omega) (by omega) k);clear a1 a2 a3 a4 a5;obtain ⟨ev, hev⟩ := zE (Cs.varsE f.va);rw [hev] at B0 HFE;clear hev;by_cases hv : ev = 0
 ·subst hv;have HFE := jQ (HFE.o.trans (if_neg (by simp)));have dv : ((0 : Int) != 0) = false := rfl;go_enter Tryz.func36, Tryz.ntmps36;go_wp2_with fail;refine (B0.o _ S0.o).mono ?_;rintro e w1 ⟨rfl, hb⟩;have S1 := jQ (S0.o.next hb);clear hb f0 f1 f2 f3 fl S0 d1 d2 d3 d4 d5;go_wp2_with fail;go_loopw [4] (fun I wr => ∃ k : Nat, k <= 3 /\ I = .int .i64 k /\ (∀ q : Nat, q < k -> (Dd.namesK f q).all Dd.nameF = true) /\ Fs w w.heap.size v f wr) (fun I _ => 3 - (intOf I).toNat)
  case atStart => exact ⟨0, Nat.zero_le _, rfl, (fun q hq => absurd hq (by omega)), S1.o⟩
  clear S1;obtain ⟨k, hk, rfl, ha, hS⟩ := hrel;have HA := jQ ha;have S2 := jQ hS;clear ha hS;obtain ⟨f0, f1, f2, f3, fl⟩ := S2.o.cells;by_cases hk3 : k < 3
  ·have dk : decide ((k : Int) < 3) = true := decide_eq_true (by omega);go_wp2_with fail;refine (B1.o k hk3 (by omega) (by omega) (by omega) hs4 _ S2.o).mono ?_;rintro e w3 ⟨A, c, rfl, hrd, hb⟩;have S3 := jQ (S2.o.next hb);have HTK := jQ (HTXT.o (k : Int));have hll := HLEN.o (k : Int);have HRD := jQ hrd;obtain ⟨L, hL⟩ := zE (Dd.namesK f (k : Int));rw [hL] at HTK hll HRD ⊢;have HL := jQ hL;clear hb f0 f1 f2 f3 fl S2 hrd hL;go_wp2_with fail;go_loopw [6] (fun I wr => ∃ i : Nat, i <= L.length /\ I = .int .i64 i /\ (∀ j (h : j < L.length), j < i -> Dd.nameF L[j] = true) /\ Fs w w.heap.size v f wr /\ Rd wr wr.heap.size 1 A L.length (wcells L)) (fun I _ => L.length - (intOf I).toNat)
   case atStart => exact ⟨0, Nat.zero_le _, rfl, (fun j h hj => absurd hj (by omega)), S3.o, HRD.o⟩
   clear S3 HRD;obtain ⟨i, hi, rfl, hb, hS, hrd⟩ := hrel;have HB := jQ hb;have S4 := jQ hS;have HRD := jQ hrd;clear hb hS hrd;by_cases hlt : i < L.length
   ·obtain ⟨b, off, rfl, hb, e0⟩ := HRD.o.text hlt;have hxl := HTK.o _ (List.getElem_mem hlt);obtain ⟨x, hx⟩ := zE (L[i]);rw [hx] at e0 hxl;have HX := jQ hx;have hN := B2.o x hxl;rcases hnx : Dd.nameF x with _ | _
    ·rw [hnx] at hN;have HN := jQ hN;have HR := jQ (show E = 4 by
      rw [HFE.o, if_pos];rw [<- Bool.not_eq_true, Dd.y5y];intro h;have h2 := h k hk3;rw [HL.o, List.all_eq_true] at h2;have h3 := h2 _ (List.getElem_mem hlt);rw [HX.o, hnx] at h3;cases h3)
     clear hN hnx hx hxl;go_wp2_with fail;refine (HN.o _).mono ?_;rintro e w5 ⟨rfl, hb5⟩;have S5 := jQ (S4.o.next hb5);clear hb5;go_wp2_with fail;go_ret;exact ⟨y02 HR.o.symm, S5.o.b⟩
    rw [hnx] at hN;have HN := jQ hN;have HNX := jQ hnx;clear hN hnx hx hxl;go_wp2_with fail;refine (HN.o _).mono ?_;rintro e w5 ⟨rfl, hb5⟩;have S5 := jQ (S4.o.next hb5);have HRD5 := jQ ((HRD.o.below hb5 (Nat.le_refl _)).more hb5.size);clear hb5;go_wp2_with fail;go_roundw
    case rel =>
     refine ⟨i + 1, by omega, by go_num, fun j h hj => ?_, S5.o, HRD5.o⟩;by_cases e : j = i
     ·subst e;rw [HX.o];exact HNX.o
     exact HB.o j h (by omega)
    case measure => simp [intOf]; omega
   have HALL := jQ (show L.all Dd.nameF = true by
    rw [List.all_eq_true];intro x hx;obtain ⟨j, hj, rfl⟩ := List.getElem_of_mem hx;exact HB.o j hj (by omega))
   obtain rfl : i = L.length := by omega
   go_wp2_with fail;go_roundw
   case rel =>
    refine ⟨k + 1, by omega, by go_num, fun q hq => ?_, S4.o⟩;by_cases e : q = k
    ·subst e;rw [HL.o];exact HALL.o
    exact HA.o q (by omega)
   case measure => simp [intOf]; omega
  have dk : decide ((k : Int) < 3) = false := decide_eq_false (by omega);have hnf : Dd.namesF f = true := by
   rw [Dd.y5y];intro q hq;exact HA.o q (by omega)
  have HFE := jQ (HFE.o.trans (if_neg (by rw [hnf]; decide)));clear hnf HA;go_wp2_with fail;clear f0 f1 f2 f3 fl;go_loopw [7] (fun I wr => ∃ k : Nat, k <= 3 /\ I = .int .i64 k /\ (∀ q : Nat, q < k -> Dd.dist (Dd.namesK f q) = true) /\ Fs w w.heap.size v f wr) (fun I _ => 3 - (intOf I).toNat)
  case atStart => exact ⟨0, Nat.zero_le _, rfl, (fun q hq => absurd hq (by omega)), S2.o⟩
  clear S2 hk hk3 dk;obtain ⟨k, hk, rfl, ha, hS⟩ := hrel;have HA := jQ ha;have S2 := jQ hS;clear ha hS;obtain ⟨f0, f1, f2, f3, fl⟩ := S2.o.cells;by_cases hk3 : k < 3
  ·have dk : decide ((k : Int) < 3) = true := decide_eq_true (by omega);go_wp2_with fail;refine (B1.o k hk3 (by omega) (by omega) (by omega) hs4 _ S2.o).mono ?_;rintro e w3 ⟨A, c, rfl, hrd, hb⟩;have S3 := jQ (S2.o.next hb);have hll := HLEN.o (k : Int);have HRD := jQ hrd;obtain ⟨L, hL⟩ := zE (Dd.namesK f (k : Int));rw [hL] at hll HRD ⊢;have HL := jQ hL;clear hb f0 f1 f2 f3 fl S2 hrd hL;go_wp2_with fail;go_loopw [9] (fun I wr => ∃ i : Nat, i <= L.length /\ I = .int .i64 i /\ (∀ j (h : j < L.length), j < i -> ¬ Dd.idxP (fun x => decide (x = L[j])) L 0 < (j : Int)) /\ Fs w w.heap.size v f wr /\ Rd wr wr.heap.size 1 A L.length (wcells L)) (fun I _ => L.length - (intOf I).toNat)
   case atStart => exact ⟨0, Nat.zero_le _, rfl, (fun j h hj => absurd hj (by omega)), S3.o, HRD.o⟩
   clear S3 HRD;obtain ⟨i, hi, rfl, hb, hS, hrd⟩ := hrel;have HB := jQ hb;have S4 := jQ hS;have HRD := jQ hrd;clear hb hS hrd;by_cases hlt : i < L.length
   ·have hP := fun s => y8v A c L s wr HRD.o (by omega);obtain ⟨b, off, rfl, hb, e0⟩ := HRD.o.text hlt;obtain ⟨x, hx⟩ := zE (L[i]);rw [hx] at e0;have HX := jQ hx;have hP := hP x;obtain ⟨r, hr⟩ := zE (Dd.idxP (fun y => decide (y = x)) L 0);rw [hr] at hP;have HP := jQ hP;have HRR := jQ hr;clear hP hr hx;by_cases hri : r < (i : Int)
    ·have dr : decide (r < (i : Int)) = true := decide_eq_true hri;have HR := jQ (show E = 6 by
      rw [HFE.o, if_pos];rw [<- Bool.not_eq_true, Dd.y7e];intro h;have h2 := h k hk3;rw [HL.o, Dd.y6G] at h2;apply h2 i hlt;rw [HX.o, HRR.o];exact hri)
     clear hri;go_wp2_with fail;refine HP.o.mono ?_;rintro e w5 ⟨rfl, hb5⟩;have S5 := jQ (S4.o.next hb5);clear hb5;go_wp2_with fail;go_ret;exact ⟨y02 HR.o.symm, S5.o.b⟩
    have dr : decide (r < (i : Int)) = false := decide_eq_false hri;have HRI := jQ hri;clear hri;go_wp2_with fail;refine HP.o.mono ?_;rintro e w5 ⟨rfl, hb5⟩;have S5 := jQ (S4.o.next hb5);have HRD5 := jQ ((HRD.o.below hb5 (Nat.le_refl _)).more hb5.size);clear hb5;go_wp2_with fail;go_roundw
    case rel =>
     refine ⟨i + 1, by omega, by go_num, fun j h hj => ?_, S5.o, HRD5.o⟩;by_cases e : j = i
     ·subst e;rw [HX.o, HRR.o];have := HRI.o;omega
     have := HB.o j h (by omega);omega
    case measure => simp [intOf]; omega
   have HALL := jQ (show Dd.dist L = true by
    rw [Dd.y6G];intro j hj;exact HB.o j hj (by omega))
   obtain rfl : i = L.length := by omega
   go_wp2_with fail;go_roundw
   case rel =>
    refine ⟨k + 1, by omega, by go_num, fun q hq => ?_, S4.o⟩;by_cases e : q = k
    ·subst e;rw [HL.o];exact HALL.o
    exact HA.o q (by omega)
   case measure => simp [intOf]; omega
  have dk : decide ((k : Int) < 3) = false := decide_eq_false (by omega);have hdf : Dd.distF f = true := by
   rw [Dd.y7e];intro q hq;exact HA.o q (by omega)
  have HFE := jQ (HFE.o.trans (if_neg (by rw [hdf]; decide)));clear hdf HA;go_wp2_with fail;clear f0 f1 f2 f3 fl;go_loopw [10] (fun I wr => ∃ k : Nat, k <= f.st.length /\ I = .int .i64 k /\ (∀ j (h : j < f.st.length), j < k -> Dd.xOk f.st[j] = true) /\ Fs w w.heap.size v f wr) (fun I _ => f.st.length - (intOf I).toNat)
  case atStart => exact ⟨0, Nat.zero_le _, rfl, (fun j h hj => absurd hj (by omega)), S2.o⟩
  clear S2 hk hk3 dk;obtain ⟨k, hk, rfl, ha, hS⟩ := hrel;have HA := jQ ha;have S2 := jQ hS;clear ha hS;obtain ⟨f0, f1, f2, f3, fl⟩ := S2.o.cells;by_cases hlt : k < f.st.length
  ·obtain ⟨b, off, hA1, hb, e0, e1⟩ := S2.o.rd.st.station hlt;have hb2 := hb;rw [hA1] at f0;obtain ⟨x, hx⟩ := zE (f.st[k]);rw [hx] at e0 e1;have HX := jQ hx;have hW := fun W => y0N x.2 0 100000 W;rw [show decide (0 <= x.2 /\ x.2 <= 100000) = Dd.xOk x from rfl] at hW;clear hx hA1;rcases hxo : Dd.xOk x with _ | _
   ·rw [hxo] at hW;have HW := jQ hW;have HR := jQ (show E = 1 by
     have h9 : f.st.all Dd.xOk = false := by
      rw [<- Bool.not_eq_true, List.all_eq_true];intro h;have h3 := h _ (List.getElem_mem hlt);rw [HX.o, hxo] at h3;cases h3
     rw [HFE.o, if_pos];unfold Dd.rangeF;rw [h9, Bool.false_and])
    clear hW hxo;go_wp2_with fail;refine (HW.o _).mono ?_;rintro e w5 ⟨rfl, rfl⟩;go_wp2_with fail;go_ret;exact ⟨y02 HR.o.symm, S2.o.b⟩
   rw [hxo] at hW;have HW := jQ hW;have HXO := jQ hxo;clear hW hxo;go_wp2_with fail;refine (HW.o _).mono ?_;rintro e w5 ⟨rfl, rfl⟩;go_wp2_with fail;go_roundw
   case rel =>
    refine ⟨k + 1, by omega, by go_num, fun j h hj => ?_, S2.o⟩;by_cases e : j = k
    ·subst e;rw [HX.o];exact HXO.o
    exact HA.o j h (by omega)
   case measure => simp [intOf]; omega
  have HST := jQ (show f.st.all Dd.xOk = true by
   rw [List.all_eq_true];intro x hx;obtain ⟨j, hj, rfl⟩ := List.getElem_of_mem hx;exact HA.o j hj (by omega))
  obtain rfl : k = f.st.length := by omega
  clear HA;go_wp2_with fail;clear f0 f1 f2 f3 fl;go_loopw [11] (fun I wr => ∃ k : Nat, k <= f.pa.length /\ I = .int .i64 k /\ (∀ j (h : j < f.pa.length), j < k -> Dd.paOk f f.pa[j] = true) /\ Fs w w.heap.size v f wr) (fun I _ => f.pa.length - (intOf I).toNat)
  case atStart => exact ⟨0, Nat.zero_le _, rfl, (fun j h hj => absurd hj (by omega)), S2.o⟩
  clear S2 hk;obtain ⟨k, hk, rfl, ha, hS⟩ := hrel;have HA := jQ ha;have S2 := jQ hS;clear ha hS;obtain ⟨f0, f1, f2, f3, fl⟩ := S2.o.cells;by_cases hlt : k < f.pa.length
  ·obtain ⟨b, off, hA1, hb, e0, e1, e2, e3⟩ := S2.o.rd.pa.parcel hlt;rw [hA1] at f2;obtain ⟨x, hx⟩ := zE (f.pa[k]);rw [hx] at e0 e1 e2 e3;have HX := jQ hx;have HBA := jQ ((Below.refl wr.heap.size wr).alloc (Nat.le_refl _) (.cells #[.string ⟨x.name.toArray⟩, .int .i64 x.south, .int .i64 x.west, .int .i64 x.east] 68));have hpo : Dd.paOk f x = (decide (0 <= x.south /\ x.south <= (f.li.length : Int) - 2) && decide (0 <= x.west /\ x.west <= (f.st.length : Int) - 1) && decide (0 <= x.east /\ x.east <= (f.st.length : Int) - 1)) := by
    unfold Dd.paOk Dd.isIx;rw [Bool.eq_iff_iff];simp only [Bool.and_eq_true, decide_eq_true_eq];omega
   have H1 := fun W => y0N x.south 0 ((f.li.length : Int) - 2) W;have H2 := fun W => y0N x.west 0 ((f.st.length : Int) - 1) W;have H3 := fun W => y0N x.east 0 ((f.st.length : Int) - 1) W;obtain ⟨z1, hz1⟩ := zE (decide (0 <= x.south /\ x.south <= (f.li.length : Int) - 2));obtain ⟨z2, hz2⟩ := zE (decide (0 <= x.west /\ x.west <= (f.st.length : Int) - 1));obtain ⟨z3, hz3⟩ := zE (decide (0 <= x.east /\ x.east <= (f.st.length : Int) - 1));rw [hz1] at hpo H1;rw [hz2] at hpo H2;rw [hz3] at hpo H3;have H1 := jQ H1;have H2 := jQ H2;have H3 := jQ H3;have HPO := jQ hpo;clear hpo hz1 hz2 hz3 hx hA1;rcases z1 with _ | _
   ·have HPO := jQ (show Dd.paOk f x = false from HPO.o);have HR := jQ (show E = 1 by
     have h9 : f.pa.all (Dd.paOk f) = false := by
      rw [<- Bool.not_eq_true, List.all_eq_true];intro h;have h3 := h _ (List.getElem_mem hlt);rw [HX.o, HPO.o] at h3;cases h3
     rw [HFE.o, if_pos];unfold Dd.rangeF;rw [h9, Bool.and_false])
    go_wp2_with fail;refine (H1.o _).mono ?_;rintro e w5 ⟨rfl, rfl⟩;go_wp2_with fail;go_ret;exact ⟨y02 HR.o.symm, (S2.o.next HBA.o).b⟩
   rcases z2 with _ | _
   ·have HPO := jQ (show Dd.paOk f x = false from HPO.o);have HR := jQ (show E = 1 by
     have h9 : f.pa.all (Dd.paOk f) = false := by
      rw [<- Bool.not_eq_true, List.all_eq_true];intro h;have h3 := h _ (List.getElem_mem hlt);rw [HX.o, HPO.o] at h3;cases h3
     rw [HFE.o, if_pos];unfold Dd.rangeF;rw [h9, Bool.and_false])
    go_wp2_with fail;refine (H1.o _).mono ?_;rintro e w5 ⟨rfl, rfl⟩;go_wp2_with fail;refine (H2.o _).mono ?_;rintro e w5 ⟨rfl, rfl⟩;go_wp2_with fail;go_ret;exact ⟨y02 HR.o.symm, (S2.o.next HBA.o).b⟩
   rcases z3 with _ | _
   ·have HPO := jQ (show Dd.paOk f x = false from HPO.o);have HR := jQ (show E = 1 by
     have h9 : f.pa.all (Dd.paOk f) = false := by
      rw [<- Bool.not_eq_true, List.all_eq_true];intro h;have h3 := h _ (List.getElem_mem hlt);rw [HX.o, HPO.o] at h3;cases h3
     rw [HFE.o, if_pos];unfold Dd.rangeF;rw [h9, Bool.and_false])
    go_wp2_with fail;refine (H1.o _).mono ?_;rintro e w5 ⟨rfl, rfl⟩;go_wp2_with fail;refine (H2.o _).mono ?_;rintro e w5 ⟨rfl, rfl⟩;go_wp2_with fail;refine (H3.o _).mono ?_;rintro e w5 ⟨rfl, rfl⟩;go_wp2_with fail;go_ret;exact ⟨y02 HR.o.symm, (S2.o.next HBA.o).b⟩
   have HPO := jQ (show Dd.paOk f x = true from HPO.o);go_wp2_with fail;refine (H1.o _).mono ?_;rintro e w5 ⟨rfl, rfl⟩;go_wp2_with fail;refine (H2.o _).mono ?_;rintro e w5 ⟨rfl, rfl⟩;go_wp2_with fail;refine (H3.o _).mono ?_;rintro e w5 ⟨rfl, rfl⟩;go_wp2_with fail;go_roundw
   case rel =>
    refine ⟨k + 1, by omega, by go_num, fun j h hj => ?_, S2.o.next HBA.o⟩;by_cases e : j = k
    ·subst e;rw [HX.o];exact HPO.o
    exact HA.o j h (by omega)
   case measure => simp [intOf]; omega
  have HRG := jQ (show Dd.rangeF f = true by
   unfold Dd.rangeF;rw [HST.o, Bool.true_and, List.all_eq_true];intro x hx;obtain ⟨j, hj, rfl⟩ := List.getElem_of_mem hx;exact HA.o j hj (by omega))
  have HFE := jQ (HFE.o.trans (if_neg (by rw [HRG.o]; decide)));have B8 := jQ (B7.o (Dd.y7L HRG.o hs1));obtain rfl : k = f.pa.length := by omega
  obtain ⟨o, ho⟩ := zE (Dd.orderF f);rw [ho] at HFE B8;clear ho HA;go_wp2_with fail;refine (B8.o _ S2.o).mono ?_;rintro e w5 ⟨rfl, hb⟩;have S5 := jQ (S2.o.next hb);clear hb f0 f1 f2 f3 fl;rcases o with _ | _
  ·go_wp2_with fail;go_ret;exact ⟨y02 (show (30 : Int) = E by rw [HFE.o]; rfl), S5.o.b⟩
  go_wp2_with fail;go_ret;exact ⟨y02 (show (0 : Int) = E by rw [HFE.o]; rfl), S5.o.b⟩
 have HR := jQ (show E = ev by rw [HFE.o, if_pos hv]);have dv : (ev != 0) = true := by simp [hv]
 go_enter Tryz.func36, Tryz.ntmps36;go_wp2_with fail;refine (B0.o _ S0.o).mono ?_;rintro e w1 ⟨rfl, hb⟩;have S1 := jQ (S0.o.next hb);clear hb;go_wp2_with fail;go_ret;exact ⟨y02 HR.o.symm, S1.o.b⟩
theorem y7F (v : Fv) (f : Dd.Fd) (w : World) (hF : FRd w w.heap.size v f) : Calls Tryz.prog 40 #[fval v f] w fun e w' => e = .returned (.int .i64 (Dd.ptsF f)) /\ Below w.heap.size w w' := by
 have hd : Dd.ptsF f = if Dd.fieldE f = 0 then (Dd.ptsN f : Int) else 0 := rfl
 have hl1 := hF.l1;have hl2 := hF.l2;have S0 := jQ (Fs.new hF);have B0 := jQ (fun W (h : Fs w w.heap.size v f W) => y1m v f W h.rd);simp only [y01] at B0 ⊢;clear hF;obtain ⟨E, hE⟩ := zE (Dd.fieldE f);rw [hE] at B0 hd;obtain ⟨m0, m1⟩ := y2F (l := f.li.length) (by omega) (by omega) hl1;rw [y7u] at hd;obtain ⟨P, hP⟩ := zE ((f.li.length : Int) * (f.st.length : Int));rw [hP] at m0 m1 hd;obtain ⟨R, hR⟩ := zE (Dd.ptsF f);rw [hR] at hd ⊢;have HD := jQ hd;clear hd hR hE;obtain ⟨f0, f1, f2, f3, fl⟩ := S0.o.cells;by_cases h0 : E = 0
 ·subst h0;have HR := jQ (HD.o.trans (if_pos rfl));go_enter Tryz.func40, Tryz.ntmps40;go_wp2_with fail;refine (B0.o _ S0.o).mono ?_;rintro e w1 ⟨rfl, hb⟩;have S1 := jQ (S0.o.next hb);clear hb f0 f1 f2 f3 fl S0;obtain ⟨f0, f1, f2, f3, fl⟩ := S1.o.cells;go_wp2_with fail;go_ret;exact ⟨y02 HR.o.symm, S1.o.b⟩
 have HR := jQ (HD.o.trans (if_neg h0));have hne : (E != 0) = true := by simp [h0]
 go_enter Tryz.func40, Tryz.ntmps40;go_wp2_with fail;refine (B0.o _ S0.o).mono ?_;rintro e w1 ⟨rfl, hb⟩;have S1 := jQ (S0.o.next hb);clear hb;go_wp2_with fail;go_ret;exact ⟨y02 HR.o.symm, S1.o.b⟩
theorem Dd.y3P {y : List Int} {n : Nat} (h : n < y.length) : Dd.at_ y (n : Int) = y[n] := by
 unfold Dd.at_;rw [Int.toNat_natCast, List.getElem?_eq_getElem h];rfl
theorem Dd.y7H (f : Dd.Fd) (l s : Nat) : Dd.pt f l s = ((1 + (l * f.st.length + s) : Nat) : Int) := by
 unfold Dd.pt
 push_cast
 omega
set_option maxHeartbeats 16000000 in
theorem y10 (v : Fv) (f : Dd.Fd) (A : Option Addr) (c : Nat) (y : List Int) (w : World) (hF : FRd w w.heap.size v f) (hY : Rd w w.heap.size 1 A y.length (icells y)) (hyl : y.length <= 1000000) (h0 : Dd.fieldE f = 0) :
  Calls Tryz.prog 54 #[fval v f, .slice A y.length c] w fun e w' => e = .returned (.bool (Dd.drw f y)) /\ Below w.heap.size w w' := by
 obtain ⟨hs1, hs2, hs3, hs4, -⟩ := Dd.y0G h0;obtain ⟨-, hp1, hp2⟩ := Dd.yAM h0;have S0 := jQ (Fs.new hF);have hl1 := hF.l1;have B0 := jQ (fun W (h : Fs w w.heap.size v f W) => (show Calls Tryz.prog 40 #[fval v f] W fun e w' => e = .returned (.int .i64 (Dd.ptsN f : Int)) /\ Below W.heap.size W w' by have h9 := y7F v f W h.rd; rw [show Dd.ptsF f = (Dd.ptsN f : Int) by unfold Dd.ptsF; rw [if_pos h0]] at h9; exact h9));have B2 := jQ (fun (l s : Nat) (h1 : l <= 1000) (h2 : s <= 1000) W => (show Calls Tryz.prog 47 #[fval v f, .int .i64 (l : Int), .int .i64 (s : Int)] W fun e w' => e = .returned (.int .i64 ((1 + (l * f.st.length + s) : Nat) : Int)) /\ Below W.heap.size W w' by rw [<- Dd.y7H]; exact y0b v f l s hl1 (by omega) (by omega) (by omega) (by omega) W));have HYD := jQ hY;obtain ⟨R, hR⟩ := zE (Dd.drw f y);rw [hR];have HR := jQ hR;have H0 := jQ h0;obtain ⟨N, hN⟩ := zE (Dd.ptsN f);have HN := jQ hN;have hNe : N = 1 + f.li.length * f.st.length := hN.symm.trans rfl;have HNE := jQ hNe;rw [hN] at B0 hp1 hp2;simp only [y01] at B0 B2 ⊢;clear hF hY h0 hR hN hNe;obtain ⟨f0, f1, f2, f3, fl⟩ := S0.o.cells;by_cases hlen : y.length = N
 ·have g1 : ((y.length : Int) != (N : Int)) = false := by simp [hlen]
  have hlt : 0 < y.length := by omega
  obtain ⟨b, off, hA, hb, y0⟩ := HYD.o.num hlt;subst hA;rw [Nat.add_zero] at y0;have e0 : Dd.at_ y 0 = y[0] := Dd.y3P (n := 0) hlt;obtain ⟨z, hz⟩ := zE (y[0]);rw [hz] at y0 e0;have E0 := jQ e0;have HY0 := jQ y0;have hlti : (0 : Int) < (y.length : Int) := by omega
  clear e0 hz y0;by_cases hz0 : z = 0
  ·have g2 : (z != 0) = false := by simp [hz0]
   have HCOR := jQ (Dd.yBP H0.o (by rw [HN.o]; exact hlen) (E0.o.trans hz0));clear hz0;go_enter Tryz.func54, Tryz.ntmps54;go_wp2_with fail;refine (B0.o _ S0.o).mono ?_;rintro e w1 ⟨rfl, hb1⟩;have S1 := jQ (S0.o.next hb1);have y0 := (S1.o.b.cell (p := ⟨b, off, none⟩) hb).trans HY0.o;have hb9 := Nat.lt_of_lt_of_le hb S1.o.b.size;clear hb1 f0 f1 f2 f3 fl S0;go_wp2_with fail;clear y0 hb9 g1 g2;go_loopw [5] (fun I wr => ∃ l : Nat, l <= f.li.length /\ I = .int .i64 l /\ (∀ i, i < l -> ∀ j, j < f.st.length -> Dd.qcorOk f y i j = true) /\ Fs w w.heap.size v f wr) (fun I _ => f.li.length - (intOf I).toNat)
   case atStart => exact ⟨0, Nat.zero_le _, rfl, (fun i hi => absurd hi (by omega)), S1.o⟩
   clear S1;obtain ⟨l, hl, rfl, ha, hS⟩ := hrel;have HA := jQ ha;have S2 := jQ hS;clear ha hS;obtain ⟨f0, f1, f2, f3, fl⟩ := S2.o.cells;by_cases hll : l < f.li.length
   ·go_wp2_with fail;clear f0 f1 f2 f3 fl;go_loopw [6] (fun I wr => ∃ s : Nat, s <= f.st.length /\ I = .int .i64 s /\ (∀ j, j < s -> Dd.qcorOk f y l j = true) /\ Fs w w.heap.size v f wr) (fun I _ => f.st.length - (intOf I).toNat)
    case atStart => exact ⟨0, Nat.zero_le _, rfl, (fun j hj => absurd hj (by omega)), S2.o⟩
    clear S2;obtain ⟨s, hs, rfl, hbb, hS⟩ := hrel;have HB := jQ hbb;have S3 := jQ hS;clear hbb hS;obtain ⟨f0, f1, f2, f3, fl⟩ := S3.o.cells;by_cases hst : s < f.st.length
    ·have hP := B2.o l s (by omega) (by omega);have hlt2 := Dd.y2a hll hst;have hPlt : 1 + (l * f.st.length + s) < y.length := by rw [hlen, HNE.o]; omega
     have hcor : Dd.qcorOk f y l s = (decide (0 <= Dd.at_ y ((1 + (l * f.st.length + s) : Nat) : Int) /\ Dd.at_ y ((1 + (l * f.st.length + s) : Nat) : Int) <= 100000) && (decide (l = 0) || decide (Dd.at_ y (1 + ((l : Int) - 1) * f.st.length + s) <= Dd.at_ y ((1 + (l * f.st.length + s) : Nat) : Int)))) := by
      rw [<- Dd.y7H];rfl
     rw [Dd.y3P hPlt] at hcor;obtain ⟨P, hPP⟩ := zE (1 + (l * f.st.length + s));simp only [hPP] at hP hcor hPlt;have HP := jQ hP;obtain ⟨b', off', he, hb', yp⟩ := (HYD.o.below S3.o.b (Nat.le_refl _)).num hPlt;cases he;obtain ⟨x, hx⟩ := zE (y[P]);rw [hx] at hcor yp;have HC := jQ hcor;have HYP := jQ yp;have hPi0 : (0 : Int) <= (P : Int) := Int.natCast_nonneg _;have hPi : (P : Int) < (y.length : Int) := by omega
     have HW := jQ (fun W => y0N x 0 100000 W);obtain ⟨z1, hz1⟩ := zE (decide (0 <= x /\ x <= 100000));rw [hz1] at HW HC;clear hP hx hcor hPP yp hz1 hlt2 hPlt;rcases z1 with _ | _
     ·have HRF := jQ (show R = false by
       rw [<- HR.o, <- Bool.not_eq_true, HCOR.o];intro h;have h2 := h l hll s hst;rw [HC.o, Bool.false_and] at h2;cases h2)
      go_wp2_with fail;refine (HP.o _).mono ?_;rintro e w4 ⟨rfl, hb4⟩;have S4 := jQ (S3.o.next hb4);have y1 := (hb4.cell (p := ⟨b, off + P, none⟩) (Nat.lt_of_lt_of_le hb S3.o.b.size)).trans HYP.o;have hb9 := Nat.lt_of_lt_of_le hb S4.o.b.size;clear hb4 f0 f1 f2 f3 fl;go_wp2_with fail;refine (HW.o _).mono ?_;rintro e w5 ⟨rfl, rfl⟩;go_wp2_with fail;go_ret;exact ⟨y00 HRF.o.symm, S4.o.b⟩
     by_cases hl0 : l = 0
     ·have HCT := jQ (show Dd.qcorOk f y l s = true by rw [HC.o, decide_eq_true hl0]; rfl);have gl : decide (0 < l) = false := decide_eq_false (by omega);clear hl0;go_wp2_with fail;refine (HP.o _).mono ?_;rintro e w4 ⟨rfl, hb4⟩;have S4 := jQ (S3.o.next hb4);have y1 := (hb4.cell (p := ⟨b, off + P, none⟩) (Nat.lt_of_lt_of_le hb S3.o.b.size)).trans HYP.o;have hb9 := Nat.lt_of_lt_of_le hb S4.o.b.size;clear hb4 f0 f1 f2 f3 fl;go_wp2_with fail;refine (HW.o _).mono ?_;rintro e w5 ⟨rfl, rfl⟩;go_wp2_with fail;go_roundw
      case rel =>
       refine ⟨s + 1, by omega, by go_num, fun j hj => ?_, S4.o⟩;by_cases e : j = s
       ·subst e;exact HCT.o
       exact HB.o j (by omega)
      case measure => simp [intOf]; omega
     obtain ⟨m, hm⟩ : ∃ m, l = m + 1 := ⟨l - 1, by omega⟩;have hm1 : (l : Int) - 1 = (m : Int) := by omega
     have gl : decide (0 < l) = true := decide_eq_true (by omega);have hP2 := B2.o m s (by omega) (by omega);have hlt3 := Dd.y2a (show m < f.li.length by omega) hst;have hQlt : 1 + (m * f.st.length + s) < y.length := by rw [hlen, HNE.o]; omega
     have hcor := HC.o;rw [decide_eq_false hl0, Bool.false_or, Bool.true_and, hm1, show (1 : Int) + (m : Int) * f.st.length + (s : Int) = ((1 + (m * f.st.length + s) : Nat) : Int) from Dd.y7H f m s, Dd.y3P hQlt] at hcor;obtain ⟨Q, hQQ⟩ := zE (1 + (m * f.st.length + s));simp only [hQQ] at hP2 hcor hQlt;have HP2 := jQ hP2;obtain ⟨b', off', he, hb', yq⟩ := (HYD.o.below S3.o.b (Nat.le_refl _)).num hQlt;cases he;obtain ⟨u, hu⟩ := zE (y[Q]);rw [hu] at hcor yq;have HC2 := jQ hcor;have HYQ := jQ yq;have hQi0 : (0 : Int) <= (Q : Int) := Int.natCast_nonneg _;have hQi : (Q : Int) < (y.length : Int) := by omega
     clear hP2 hu hcor hQQ yq hlt3 hQlt hl0 hm;by_cases hxu : u <= x
     ·have gx : decide (x < u) = false := decide_eq_false (by omega);have HCT := jQ (show Dd.qcorOk f y l s = true by rw [HC2.o]; exact decide_eq_true hxu);clear hxu;go_wp2_with fail;refine (HP.o _).mono ?_;rintro e w4 ⟨rfl, hb4⟩;have S4 := jQ (S3.o.next hb4);have y1 := (hb4.cell (p := ⟨b, off + P, none⟩) (Nat.lt_of_lt_of_le hb S3.o.b.size)).trans HYP.o;have HYQ4 := jQ ((hb4.cell (p := ⟨b, off + Q, none⟩) (Nat.lt_of_lt_of_le hb S3.o.b.size)).trans HYQ.o);have hb9 := Nat.lt_of_lt_of_le hb S4.o.b.size;clear hb4 f0 f1 f2 f3 fl;obtain ⟨f0, f1, f2, f3, fl⟩ := S4.o.cells;go_wp2_with fail;refine (HW.o _).mono ?_;rintro e w5 ⟨rfl, rfl⟩;go_wp2_with fail;refine (HP2.o _).mono ?_;rintro e w6 ⟨rfl, hb6⟩;have S6 := jQ (S4.o.next hb6);have y2 := (hb6.cell (p := ⟨b, off + Q, none⟩) hb9).trans HYQ4.o;have hb10 := Nat.lt_of_lt_of_le hb S6.o.b.size;clear hb6 f0 f1 f2 f3 fl y1;go_wp2_with fail;go_roundw
      case rel =>
       refine ⟨s + 1, by omega, by go_num, fun j hj => ?_, S6.o⟩;by_cases e : j = s
       ·subst e;exact HCT.o
       exact HB.o j (by omega)
      case measure => simp [intOf]; omega
     have gx : decide (x < u) = true := decide_eq_true (by omega);have HRF := jQ (show R = false by
      rw [<- HR.o, <- Bool.not_eq_true, HCOR.o];intro h;have h2 := h l hll s hst;rw [HC2.o] at h2;exact hxu (of_decide_eq_true h2))
     clear hxu;go_wp2_with fail;refine (HP.o _).mono ?_;rintro e w4 ⟨rfl, hb4⟩;have S4 := jQ (S3.o.next hb4);have y1 := (hb4.cell (p := ⟨b, off + P, none⟩) (Nat.lt_of_lt_of_le hb S3.o.b.size)).trans HYP.o;have HYQ4 := jQ ((hb4.cell (p := ⟨b, off + Q, none⟩) (Nat.lt_of_lt_of_le hb S3.o.b.size)).trans HYQ.o);have hb9 := Nat.lt_of_lt_of_le hb S4.o.b.size;clear hb4 f0 f1 f2 f3 fl;obtain ⟨f0, f1, f2, f3, fl⟩ := S4.o.cells;go_wp2_with fail;refine (HW.o _).mono ?_;rintro e w5 ⟨rfl, rfl⟩;go_wp2_with fail;refine (HP2.o _).mono ?_;rintro e w6 ⟨rfl, hb6⟩;have S6 := jQ (S4.o.next hb6);have y2 := (hb6.cell (p := ⟨b, off + Q, none⟩) hb9).trans HYQ4.o;have hb10 := Nat.lt_of_lt_of_le hb S6.o.b.size;clear hb6 f0 f1 f2 f3 fl y1;go_wp2_with fail;go_ret;exact ⟨y00 HRF.o.symm, S6.o.b⟩
    obtain rfl : s = f.st.length := by omega
    go_wp2_with fail;go_roundw
    case rel =>
     refine ⟨l + 1, by omega, by go_num, fun i hi j hj => ?_, S3.o⟩;by_cases e : i = l
     ·subst e;exact HB.o j hj
     exact HA.o i (by omega) j hj
    case measure => simp [intOf]; omega
   have HRT := jQ (show R = true by
    rw [<- HR.o, HCOR.o];intro i hi j hj;exact HA.o i (by omega) j hj)
   obtain rfl : l = f.li.length := by omega
   go_wp2_with fail;go_ret;exact ⟨y00 HRT.o.symm, S2.o.b⟩
  have g2 : (z != 0) = true := by simp [hz0]
  have HRF := jQ (show R = false by
   rw [<- HR.o];unfold Dd.drw;rw [E0.o, decide_eq_false hz0, Bool.and_false, Bool.false_and, Bool.false_and])
  clear hz0;go_enter Tryz.func54, Tryz.ntmps54;go_wp2_with fail;refine (B0.o _ S0.o).mono ?_;rintro e w1 ⟨rfl, hb1⟩;have S1 := jQ (S0.o.next hb1);have y0 := (S1.o.b.cell (p := ⟨b, off, none⟩) hb).trans HY0.o;have hb9 := Nat.lt_of_lt_of_le hb S1.o.b.size;clear hb1 f0 f1 f2 f3 fl S0;go_wp2_with fail;go_ret;exact ⟨y00 HRF.o.symm, S1.o.b⟩
 have g1 : ((y.length : Int) != (N : Int)) = true := by simp; omega
 have HRF := jQ (show R = false by
  rw [<- HR.o];unfold Dd.drw;rw [HN.o, decide_eq_false hlen, Bool.false_and, Bool.false_and, Bool.false_and])
 go_enter Tryz.func54, Tryz.ntmps54;go_wp2_with fail;refine (B0.o _ S0.o).mono ?_;rintro e w1 ⟨rfl, hb1⟩;have S1 := jQ (S0.o.next hb1);clear hb1;go_wp2_with fail;go_ret;exact ⟨y00 HRF.o.symm, S1.o.b⟩
end

section
open Go.RowKit
theorem y1n (a b m : Int) (ha : -1000000000 <= a /\ a <= 1000000000) (hb : -1000000000 <= b /\ b <= 1000000000) (w : World) :
  Calls Tryz.prog 58 #[.int .i64 a, .int .i64 b, .int .i64 m] w fun e w' => e = .returned (.bool (Dd.near a b m)) /\ w' = w := by
 have hw1 : IntKind.i64.wrap (a - b) = a - b := IntWalk.i64_in _ (by omega);have hw2 : IntKind.i64.wrap (b - a) = b - a := IntWalk.i64_in _ (by omega);by_cases h1 : a - b <= m
 ·have d1 : decide (a - b <= m) = true := decide_eq_true h1;have HR := jQ (show Dd.near a b m = decide (b - a <= m) by unfold Dd.near; rw [d1, Bool.true_and]);rw [HR.o];clear h1;go_enter Tryz.func58, Tryz.ntmps58;go_wp2_with fail;go_ret;exact ⟨rfl, rfl⟩
 have d1 : decide (a - b <= m) = false := decide_eq_false h1;have HR := jQ (show Dd.near a b m = false by unfold Dd.near; rw [d1, Bool.false_and]);rw [HR.o];clear h1;go_enter Tryz.func58, Tryz.ntmps58;go_wp2_with fail;go_ret;exact ⟨rfl, rfl⟩
structure Cr (w : World) (v : Fv) (f : Dd.Fd) (x : Dd.Ca) (W : World) : Prop where
 fs : Fs w w.heap.size v f W
 kC : Bk W (w.heap.size + 1) 48 #[.int .u8 x.k, .int .i64 x.l, .int .i64 x.o, .int .i64 x.a, .int .i64 x.b, .int .i64 x.s, .int .i64 x.e, .int .i64 x.c.b, .int .i64 x.c.n, .int .i64 x.c.l, .int .i64 x.c.y, .int .i64 x.c.w, .int .i64 x.c.s]
section
variable {w W W' : World} {v : Fv} {f : Dd.Fd} {x : Dd.Ca}
theorem Cr.next (h : Cr w v f x W) (hb : Below W.heap.size W W') : Cr w v f x W' := ⟨h.fs.next hb, h.kC.below hb h.kC.lt⟩
theorem Cr.new (hF : FRd w w.heap.size v f) : Cr w v f x ((w.alloc (.cells #[.slice v.a1 f.st.length v.c1, .slice v.a2 f.li.length v.c2, .slice v.a3 f.pa.length v.c3, .slice v.a4 f.va.length v.c4] 27)).alloc (.cells #[.int .u8 x.k, .int .i64 x.l, .int .i64 x.o, .int .i64 x.a, .int .i64 x.b, .int .i64 x.s, .int .i64 x.e, .int .i64 x.c.b, .int .i64 x.c.n, .int .i64 x.c.l, .int .i64 x.c.y, .int .i64 x.c.w, .int .i64 x.c.s] 48)) := by
 obtain ⟨w1, h1⟩ := zE (w.alloc (.cells #[.slice v.a1 f.st.length v.c1, .slice v.a2 f.li.length v.c2, .slice v.a3 f.pa.length v.c3, .slice v.a4 f.va.length v.c4] 27));have z1 : w1.heap.size = w.heap.size + 1 := by rw [<- h1]; simp
 have f1 : Fs w w.heap.size v f w1 := h1 ▸ Fs.new hF;rw [h1];have b2 : Below w1.heap.size w1 (w1.alloc (.cells #[.int .u8 x.k, .int .i64 x.l, .int .i64 x.o, .int .i64 x.a, .int .i64 x.b, .int .i64 x.s, .int .i64 x.e, .int .i64 x.c.b, .int .i64 x.c.n, .int .i64 x.c.l, .int .i64 x.c.y, .int .i64 x.c.w, .int .i64 x.c.s] 48)) := (Below.refl _ _).alloc (Nat.le_refl _) _;exact ⟨f1.next b2, by rw [<- z1]; exact Bk.new _ _ _⟩
end
theorem Dd.yBQ {f : Dd.Fd} (h : Dd.fieldE f = 0) : ∀ t ∈ f.st, 0 <= t.2 /\ t.2 <= 100000 := by
 obtain ⟨_, _, _, _, _, _, _, _, hr, _⟩ := Dd.y0G h;simp only [Dd.rangeF, Bool.and_eq_true, List.all_eq_true] at hr;intro t ht;have := hr.1 _ ht;simpa [Dd.xOk] using this
theorem y5B (v : Fv) (f : Dd.Fd) (x : Dd.Ca) (w : World) (hF : FRd w w.heap.size v f) (h0 : Dd.fieldE f = 0) (ha : Dd.isIx x.a f.st.length = true) (hb : Dd.isIx x.b f.st.length = true) :
  Calls Tryz.prog 60 #[fval v f, caval x] w fun e w' => e = .returned (.int .i64 (Dd.run f x)) /\ Below w.heap.size w w' := by
 have hr := Dd.yBQ h0;unfold Dd.isIx at ha hb;have ha := of_decide_eq_true ha;have hb := of_decide_eq_true hb;obtain ⟨n, hn⟩ : ∃ n : Nat, x.a = n := ⟨x.a.toNat, by omega⟩;obtain ⟨m, hm⟩ : ∃ n : Nat, x.b = n := ⟨x.b.toNat, by omega⟩;have hnl : n < f.st.length := by omega
 have hml : m < f.st.length := by omega
 have hrun : Dd.run f x = f.st[m].2 - f.st[n].2 := by
  unfold Dd.run Dd.xAt;rw [hn, hm, Int.toNat_natCast, Int.toNat_natCast, List.getElem?_eq_getElem hnl, List.getElem?_eq_getElem hml];rfl
 have r1 := hr _ (List.getElem_mem hnl);have r2 := hr _ (List.getElem_mem hml);have C0 := jQ (Cr.new (x := x) hF);obtain ⟨R, hR⟩ := zE (Dd.run f x);rw [hR] at hrun ⊢;rw [y01, y03];have HN := jQ hn;have HM := jQ hm;clear hF hr hR h0 hn hm ha hb;go_enter Tryz.func60, Tryz.ntmps60;go_upto_region 1 with fail;refine y0i (fun V => Cr w v f x V) C0.o ?_;intro W1 hc;have C1 := jQ hc;obtain ⟨f0, f1, f2, f3, fl⟩ := C1.o.fs.cells;have c3 := (C1.o.kC.cell 3).trans rfl;have c4 := (C1.o.kC.cell 4).trans rfl;have cl := C1.o.kC.lt;obtain ⟨b, off, hA1, hb1, e0, e1⟩ := C1.o.fs.rd.st.station hnl;obtain ⟨b2, off2, hA2, hb2, g0, g1⟩ := C1.o.fs.rd.st.station hml;rw [hA1] at hA2;obtain ⟨rfl, rfl⟩ : b = b2 /\ off = off2 := by simpa using hA2
 rw [hA1] at f0;rw [HN.o] at c3;rw [HM.o] at c4;obtain ⟨y, hy⟩ := zE (f.st[n].2);obtain ⟨z, hz⟩ := zE (f.st[m].2);rw [hy] at e1 hrun r1;rw [hz] at g1 hrun r2;have hw1 : IntKind.i64.wrap (z - y) = z - y := IntWalk.i64_in _ (by omega);have HRUN := jQ hrun;have hni : (n : Int) < (f.st.length : Int) := by omega
 have hmi : (m : Int) < (f.st.length : Int) := by omega
 clear C0 hc hA1 hA2 hy hz hrun g0 e0;go_quiet (fail);go_wp2_with fail;go_ret;exact ⟨y02 HRUN.o.symm, y05 C1.o.fs.b _⟩
end
end Go.Proofs.YtccikcpcfdjobaaGreatDoor
