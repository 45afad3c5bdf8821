/-
  What the claim needs: contracts.
-/
import Derived.Test.YtccikcpcfdjobaaGreatDoorBs16
set_option linter.unusedVariables false
set_option linter.unusedSimpArgs false
set_option maxHeartbeats 8000000
set_option maxRecDepth 100000
namespace Go.Proofs.YtccikcpcfdjobaaGreatDoor
section
open Go.RowKit
namespace Dl
def isPoint (n p : Int) : Bool := decide (0 <= p) && decide (p < n)
def within (x most : Int) : Bool := decide (-most <= x) && decide (x <= most)
def valid (n : Int) (b : Dd.Bd) : Bool :=
 isPoint n b.f && (isPoint n b.t && (!(b.f == b.t) && (within b.m 1000000 && (decide (0 <= b.r) && decide (b.r <= 1000000)))))
def check (N : Int) (bs : List Dd.Bd) : Int :=
 if 128 < N ∨ 2000 < bs.length then 2 else if N < 1 then 1 else if bs.all (valid N) then 0 else 1
def areV (N : Int) (y : List Int) : Bool := decide ((y.length : Int) = N) && (decide (Dd.at_ y 0 = 0) && y.all (fun v => within v 400000000))
end Dl
theorem Rd.num {w : World} {B : Nat} {A : Option Addr} {l : List Int} (h : Rd w B 1 A l.length (icells l)) {k : Nat} (hk : k < l.length) :
  ∃ b off, A = some ⟨b, off, none⟩ /\ b < B /\ w.cell? ⟨b, off + k, none⟩ = some (.int .i64 l[k]) := by
 obtain ⟨b, off, e, hb, hc⟩ := h.2 (by omega);refine ⟨b, off, e, hb, ?_⟩;rw [hc k (by omega)];simp [icells, hk]
theorem y9u (g : Nat) (cap : Array Value) (p : Int -> Bool) (A : Option Addr) (c : Nat) (ys : List (Int)) (w : World) (hR : Rd w w.heap.size 1 A ys.length (icells ys)) (hl : ys.length <= 1000000)
  (eg : ∀ args w, (callFunc g args).run Tryz.prog w = .ok (.enter g args) w)
  (hcl : ∀ x ∈ ys, ∀ W, Below w.heap.size w W -> Calls Tryz.prog g (#[.int .i64 x] ++ cap) W fun e w' => e = .returned (.bool (p x)) /\ Below W.heap.size W w') :
  Calls Tryz.prog 241 #[.slice A ys.length c, .func (.func g) #[] cap] w fun e w' => e = .returned (.int .i64 (Dd.idxP p ys 0)) /\ Below w.heap.size w w' := by
 have HCL := jQ hcl;have HR := jQ hR;clear hcl hR;go_enter Tryz.func241, Tryz.ntmps241;go_wp2_with fail;go_loopw [8] (fun I wr => ∃ k : Nat, k <= ys.length /\ I = .int .i64 k /\ (∀ j (h : j < ys.length), j < k -> p ys[j] = false) /\ Below w.heap.size w wr) (fun I _ => ys.length - (intOf I).toNat)
 case atStart => exact ⟨0, Nat.zero_le _, rfl, fun j h hj => absurd hj (by omega), Below.refl _ _⟩
 obtain ⟨k, hk, rfl, ha, hB⟩ := hrel;have HA := jQ ha;have HB := jQ hB;clear ha;by_cases hlt : k < ys.length
 ·obtain ⟨b, off, rfl, hb, e0⟩ := (HR.o.below hB (Nat.le_refl _)).num hlt;have hc := HCL.o _ (List.getElem_mem hlt) wr hB;have hb2 : b < wr.heap.size := Nat.lt_of_lt_of_le hb hB.size;obtain ⟨x, hx⟩ := zE (ys[k]);rw [hx] at e0 hc;have HX := jQ hx;have HC := jQ hc;rcases hp : p x with _ | _
  ·rw [hp] at hc;have HP := jQ hp;have HC := jQ hc;clear hc hp hx hB;go_wp2_with fail;refine HC.o.mono ?_;rintro e w2 ⟨rfl, hb3⟩;have HB2 := jQ (HB.o.trans (hb3.mono HB.o.size));clear hb3;go_wp2_with fail;go_roundw
   case rel =>
    refine ⟨k + 1, by omega, by go_num, fun j h hj => ?_, HB2.o⟩;by_cases e : j = k
    ·subst e;rw [HX.o];exact HP.o
    exact HA.o j h (by omega)
   case measure => simp [intOf]; omega
  rw [hp] at hc;have hres : Dd.idxP p ys 0 = k := Dd.y1h hlt (by rw [hx]; exact hp) (fun j hj => HA.o j (by omega) hj);have HRES := jQ hres;have HC := jQ hc;clear hc hp hx hB hres;go_wp2_with fail;refine HC.o.mono ?_;rintro e w2 ⟨rfl, hb3⟩;have HB2 := jQ (HB.o.trans (hb3.mono HB.o.size));clear hb3;go_wp2_with fail;go_ret;exact ⟨y02 HRES.o.symm, HB2.o⟩
 have hres : Dd.idxP p ys 0 = -1 := Dd.y1i (fun j h => HA.o j h (by omega));have HRES := jQ hres;obtain rfl : k = ys.length := by omega
 clear hres hB;go_wp2_with fail;go_ret;exact ⟨y02 HRES.o.symm, HB.o⟩
theorem y9V (g : Nat) (cap : Array Value) (p : Int -> Bool) (A : Option Addr) (c : Nat) (ys : List (Int)) (w : World) (hR : Rd w w.heap.size 1 A ys.length (icells ys)) (hl : ys.length <= 1000000)
  (eg : ∀ args w, (callFunc g args).run Tryz.prog w = .ok (.enter g args) w)
  (hcl : ∀ x ∈ ys, ∀ W, Below w.heap.size w W -> Calls Tryz.prog g (#[.int .i64 x] ++ cap) W fun e w' => e = .returned (.bool (p x)) /\ Below W.heap.size W w') :
  Calls Tryz.prog 209 #[.slice A ys.length c, .func (.func g) #[] cap] w fun e w' => e = .returned (.bool (ys.any p)) /\ Below w.heap.size w w' := by
 have h1 := y9u g cap p A c ys w hR hl eg hcl;rw [y2w];obtain ⟨i, hi⟩ := zE (Dd.idxP p ys 0);rw [hi] at h1 ⊢;have H1 := jQ h1;clear h1 hcl hR hi eg;go_enter Tryz.func209, Tryz.ntmps209;go_wp2_with fail;refine H1.o.mono ?_;rintro e w2 ⟨rfl, hb⟩;have HB := jQ hb;clear hb;go_wp2_with fail;go_ret;exact ⟨rfl, HB.o⟩
theorem y5u (n p : Int) (w : World) :
  Calls Tryz.prog 240 #[.int .i64 n, .int .i64 p] w fun e w' => e = .returned (.bool (Dl.isPoint n p)) /\ w = w' := by
 by_cases h : 0 <= p
 ·go_enter Tryz.func240, Tryz.ntmps240
  go_wp2
  go_ret;exact ⟨by simp [Dl.isPoint, h], rfl⟩
 go_enter Tryz.func240, Tryz.ntmps240
 go_wp2
 go_ret;exact ⟨by simp [Dl.isPoint]; omega, rfl⟩
theorem y3M (x m : Int) (h1 : 0 <= m) (h2 : m <= 400000000) (w : World) :
  Calls Tryz.prog 211 #[.int .i64 x, .int .i64 m] w fun e w' => e = .returned (.bool (Dl.within x m)) /\ w = w' := by
 by_cases h : -m <= x
 ·go_enter Tryz.func211, Tryz.ntmps211
  go_wp2
  go_ret;exact ⟨by simp [Dl.within, h], rfl⟩
 go_enter Tryz.func211, Tryz.ntmps211
 go_wp2
 go_ret;exact ⟨by simp [Dl.within]; omega, rfl⟩
theorem y4V (n f t m r : Int) (w : World) :
  Calls Tryz.prog 208 #[.int .i64 n, .agg #[.int .i64 f, .int .i64 t, .int .i64 m, .int .i64 r]] w fun e w' => e = .returned (.bool (Dl.valid n ⟨f, t, m, r⟩)) /\ Below w.heap.size w w' := by
 rcases h1 : Dl.isPoint n f with _ | _
 case' true => rcases h2 : Dl.isPoint n t with _ | _
 case' true.true => rcases h3 : f != t with _ | _
 case' true.true.true => rcases h4 : Dl.within m 1000000 with _ | _
 case' true.true.true.true => rcases Int.lt_or_le r 0 with h5 | h5
 case' true.true.true.true.inr => rcases Int.lt_or_le 1000000 r with h6 | h6
 all_goals
  go_enter Tryz.func208, Tryz.ntmps208;go_wp2_with (first | (go_at_call 240; refine (y5u _ _ _).mono ?_; rintro e w' ⟨rfl, rfl⟩) | (go_at_call 211; refine (y3M _ _ (by omega) (by omega) _).mono ?_; rintro e w' ⟨rfl, rfl⟩));go_ret;refine ⟨y00 ?_, (Below.refl _ _).alloc (Nat.le_refl _) _⟩
  first
   | (simp [Dl.valid, h1]; done)
   | (simp [Dl.valid, h1, h2]; done)
   | (simp [Dl.valid, h2, bne_eq_false_iff_eq.1 h3]; done)
   | (simp [Dl.valid, h1, h2, h4]; done)
   | (have h7 := bne_iff_ne.1 h3; simp [Dl.valid, h1, h2, h4, h7, h5]; done)
   | (have h7 := bne_iff_ne.1 h3; simp [Dl.valid, h1, h2, h4, h7]; omega)
theorem y7p {N : Int} {bs : List Dd.Bd} (h : 128 < N ∨ 2000 < bs.length) : (2 : Int) = Dl.check N bs := by rw [Dl.check, if_pos h]
theorem yBE {N : Int} {bs : List Dd.Bd} (h : ¬ (128 < N ∨ 2000 < bs.length)) (h1 : N < 1) : (1 : Int) = Dl.check N bs := by rw [Dl.check, if_neg h, if_pos h1]
theorem y8j {N : Int} {bs : List Dd.Bd} (h : ¬ (128 < N ∨ 2000 < bs.length)) (h1 : ¬ N < 1) {k : Nat} (hk : k < bs.length) (hv : Dl.valid N bs[k] = false) : (1 : Int) = Dl.check N bs := by
 rw [Dl.check, if_neg h, if_neg h1, if_neg];intro ha;rw [List.all_eq_true.1 ha _ (List.getElem_mem hk)] at hv;cases hv
theorem yAA {N : Int} {bs : List Dd.Bd} (h : ¬ (128 < N ∨ 2000 < bs.length)) (h1 : ¬ N < 1) (ha : (bs.take bs.length).all (Dl.valid N) = true) : (0 : Int) = Dl.check N bs := by
 rw [List.take_length] at ha;rw [Dl.check, if_neg h, if_neg h1, if_pos ha]
theorem yA8 {N : Int} {bs : List Dd.Bd} {k : Nat} (hk : k < bs.length) (ha : (bs.take k).all (Dl.valid N) = true) (hv : Dl.valid N bs[k] = true) : (bs.take (k + 1)).all (Dl.valid N) = true := by
 rw [List.take_succ_eq_append_getElem hk, List.all_append, ha, List.all_cons, hv];rfl
theorem y8i (N : Int) (A : Option Addr) (c : Nat) (bs : List Dd.Bd) (w : World) (hR : Rd w w.heap.size 4 A bs.length (bcells bs)) (hc : bs.length <= 1000000) :
  Calls Tryz.prog 164 #[.agg #[.int .i64 N, .slice A bs.length c]] w fun e w' => e = .returned (.int .i64 (Dl.check N bs)) /\ Below w.heap.size w w' := by
 rcases Int.lt_or_le 128 N with h1 | h1
 ·go_enter Tryz.func164, Tryz.ntmps164;go_wp2_with fail;go_ret;exact ⟨y02 (y7p (.inl h1)), (Below.refl _ _).alloc (Nat.le_refl _) _⟩
 rcases Nat.lt_or_ge 2000 bs.length with h2 | h2
 ·go_enter Tryz.func164, Tryz.ntmps164;go_wp2_with fail;go_ret;exact ⟨y02 (y7p (.inr h2)), (Below.refl _ _).alloc (Nat.le_refl _) _⟩
 rcases Int.lt_or_le N 1 with h3 | h3
 ·go_enter Tryz.func164, Tryz.ntmps164;go_wp2_with fail;go_ret;exact ⟨y02 (yBE (by omega) h3), (Below.refl _ _).alloc (Nat.le_refl _) _⟩
 go_enter Tryz.func164, Tryz.ntmps164;go_wp2_with fail;have hB0 : Below w.heap.size w (w.alloc (.cells #[.int .i64 N, .slice A bs.length c] 139)) := (Below.refl _ _).alloc (Nat.le_refl _) _;go_loopw [20] (fun i wr => ∃ k : Nat, k <= bs.length /\ i = .int .i64 k /\ (bs.take k).all (Dl.valid N) = true /\ Below w.heap.size w wr /\ Bk wr w.heap.size 139 #[.int .i64 N, .slice A bs.length c])
  (fun i _ => bs.length - (intOf i).toNat)
 case atStart => exact ⟨0, Nat.zero_le _, rfl, rfl, hB0, Bk.new _ _ _⟩
 obtain ⟨k, hk, rfl, ha, hB, hK⟩ := hrel;have hlt := hK.lt;by_cases hkl : k < bs.length
 ·obtain ⟨b, off, rfl, hb, e0, e1, e2, e3⟩ := (hR.below hB (Nat.le_refl _)).bound hkl;have c0 := hK.cell 0;have hat := yA8 hkl ha;have hbad := y8j (N := N) (by omega) (by omega) hkl;obtain ⟨bd, hbd⟩ := zE (bs[k]);rw [hbd] at e0 e1 e2 e3 hat hbad;obtain ⟨f, t, m, r⟩ := bd;have HA := jQ hat;have HB := jQ hbad;clear hat hbad hbd ha;have hB1 : Below w.heap.size wr (wr.alloc (.cells #[.int .i64 f, .int .i64 t, .int .i64 m, .int .i64 r] 78)) := (Below.refl _ _).alloc (by omega) _;rcases hv : Dl.valid N ⟨f, t, m, r⟩ with _ | _
  ·go_wp2_with (first | (go_at_call 208; refine (y4V _ _ _ _ _ _).mono ?_; rintro e w1 ⟨rfl, hb1⟩));go_ret;exact ⟨y02 (HB.o hv), hB.trans (hB1.trans (hb1.mono (by simp; omega)))⟩
  go_wp2_with (first | (go_at_call 208; refine (y4V _ _ _ _ _ _).mono ?_; rintro e w1 ⟨rfl, hb1⟩));have hb2 := hB1.trans (hb1.mono (by simp; omega));go_roundw
  case rel => exact ⟨k + 1, by omega, by go_num, HA.o hv, hB.trans hb2, (hK.alloc _).below hb1 (by simp; omega)⟩
  case measure => simp [intOf]; omega
 go_wp2_with (fail);go_ret;obtain rfl : k = bs.length := by omega
 exact ⟨y02 (yAA (by omega) (by omega) ha), hB⟩
theorem y46 (v : Int) (w : World) :
  Calls Tryz.prog 210 #[.int .i64 v] w fun e w' => e = .returned (.bool (!(Dl.within v 400000000))) /\ w = w' := by
 rcases hw : Dl.within v 400000000 with _ | _
 all_goals
  go_enter Tryz.func210, Tryz.ntmps210;go_wp2_with (go_at_call 211; refine (y3M _ _ (by omega) (by omega) _).mono ?_; rintro e w' ⟨rfl, rfl⟩);go_ret;exact ⟨rfl, rfl⟩
end

section
open Go.RowKit
theorem Dl.areV_spec {N : Int} {y : List Int} (h : Dl.areV N y = true) : (y.length : Int) = N /\ ∀ j (h : j < y.length), -400000000 <= y[j] /\ y[j] <= 400000000 := by
 simp only [Dl.areV, Bool.and_eq_true, decide_eq_true_eq, List.all_eq_true] at h;refine ⟨h.1, fun j hj => ?_⟩;have := h.2.2 _ (List.getElem_mem hj);simpa [Dl.within] using this
theorem Dl.check_spec {N : Int} {bs : List Dd.Bd} (h : Dl.check N bs = 0) : N <= 128 /\ bs.length <= 2000 /\ 1 <= N /\ ∀ j (hj : j < bs.length), (0 <= bs[j].f /\ bs[j].f < N) /\ (0 <= bs[j].t /\ bs[j].t < N) := by
 unfold Dl.check at h;split at h
 ·omega
 split at h
 ·omega
 split at h
 ·rename_i h1 h2 h3;refine ⟨by omega, by omega, by omega, fun j hj => ?_⟩;have := List.all_eq_true.1 h3 _ (List.getElem_mem hj);simp only [Dl.valid, Dl.isPoint, Bool.and_eq_true, decide_eq_true_eq] at this;exact ⟨this.1, this.2.1⟩
 omega
theorem yA9 (N : Int) (hN1 : 1 <= N) (A : Option Addr) (c : Nat) (y : List Int) (w : World) (hY : Rd w w.heap.size 1 A y.length (icells y)) (hyl : y.length <= 1000000) :
  Calls Tryz.prog 165 #[.int .i64 N, .slice A y.length c] w fun e w' => e = .returned (.bool (Dl.areV N y)) /\ Below w.heap.size w w' := by
 have hd : Dl.areV N y = (decide ((y.length : Int) = N) && (decide (Dd.at_ y 0 = 0) && !(y.any fun v => !(Dl.within v 400000000)))) := by
  unfold Dl.areV;rw [List.not_any_eq_all_not];simp
 have hc := y9V 210 #[] (fun v => !(Dl.within v 400000000)) A c y w hY hyl (enters_of Tryz.func210 (by kernel_rfl) rfl)
  (fun x _ W _ => (y46 x W).mono (by rintro e w' ⟨rfl, rfl⟩; exact ⟨rfl, Below.refl _ _⟩))
 obtain ⟨z, hz⟩ := zE ((y.any fun v => !(Dl.within v 400000000)));rw [hz] at hd hc;obtain ⟨R, hR⟩ := zE (Dl.areV N y);rw [hR] at hd ⊢;have HC := jQ hc;clear hc hz hR;by_cases h1 : (y.length : Int) = N
 ·have g1 : ((y.length : Int) != N) = false := by simp [h1]
  have h0 : 0 < y.length := by omega
  obtain ⟨b, off, hA, hb, y0⟩ := hY.num h0;have e0 : Dd.at_ y 0 = y[0] := by unfold Dd.at_; rw [show (0 : Int).toNat = 0 from rfl, List.getElem?_eq_getElem h0]; rfl
  rw [decide_eq_true h1, Bool.true_and, e0] at hd;obtain ⟨x, hx⟩ := zE (y[0]);rw [hx] at y0 hd;have HD := jQ hd;rw [Nat.add_zero] at y0;rw [hA];rw [hA] at HC;clear hd e0 hx hA hY h1;by_cases hx0 : x = 0
  ·subst hx0;have HD := jQ (show R = !z by rw [HD.o]; simp);rcases z with _ | _
   all_goals
    go_enter Tryz.func165, Tryz.ntmps165;go_wp2_with fail;refine HC.o.mono ?_;rintro e w1 ⟨rfl, hb1⟩;go_wp2_with fail;go_ret;exact ⟨by rw [HD.o]; rfl, hb1⟩
  have g2 : (x != 0) = true := by simp [hx0]
  have HD := jQ (show R = false by rw [HD.o, decide_eq_false hx0, Bool.false_and]);go_enter Tryz.func165, Tryz.ntmps165;go_wp2_with fail;go_ret;exact ⟨by rw [HD.o]; rfl, Below.refl _ _⟩
 have g1 : ((y.length : Int) != N) = true := by simp [h1]
 rw [decide_eq_false h1, Bool.false_and] at hd;subst hd;go_enter Tryz.func165, Tryz.ntmps165;go_wp2_with fail;go_ret;exact ⟨rfl, Below.refl _ _⟩
theorem yAF (M : Nat) (A : Option Addr) (c : Nat) (bs : List Dd.Bd) (A2 : Option Addr) (c2 : Nat) (y : List Int) (w : World) (hR : Rd w w.heap.size 4 A bs.length (bcells bs)) (hY : Rd w w.heap.size 1 A2 y.length (icells y)) (hyl : y.length <= 1000000) (hch : Dl.check M bs = 0) :
  Calls Tryz.prog 107 #[.agg #[.int .i64 M, .slice A bs.length c], .slice A2 y.length c2] w fun e w' => ∃ r, e = .returned (.tuple #[.int .i64 r, .bool (Dl.areV M y && bs.all (Dd.keepsB y)), .int .i64 (if Dl.areV M y = true then 0 else 1)]) /\ Below w.heap.size w w' := by
 have hB0 : Below w.heap.size w (w.alloc (.cells #[.int .i64 M, .slice A bs.length c] 139)) := (Below.refl _ _).alloc (Nat.le_refl _) _;have k0 := Bk.new w 139 #[.int .i64 M, .slice A bs.length c];have hR1 := (hR.below hB0 (Nat.le_refl _)).more hB0.size;obtain ⟨_, hlen, hM1, hof⟩ := Dl.check_spec hch;have HOF := jQ hof;have HC := jQ (fun W h => y8i M A c bs W h (by omega));rw [hch] at HC;have HV := jQ (fun W h => yA9 M hM1 A2 c2 y W h hyl);have HS := jQ (fun h => Dl.areV_spec (N := M) (y := y) h);obtain ⟨av, hav⟩ := zE (Dl.areV M y);rw [hav] at HV HS ⊢;obtain ⟨R, hRR⟩ := zE ((av && bs.all (Dd.keepsB y)));rw [hRR];have HR := jQ hRR;have HRD := jQ hR;have HYD := jQ hY;clear hRR hav hof hch hR hY;go_enter Tryz.func107, Tryz.ntmps107;go_wp2_with fail;refine (HC.o _ hR1).mono ?_;rintro e w1 ⟨rfl, hb1⟩;have k1 := k0.below hb1 (by simp);have c0 := (k1.cell 0).trans rfl;have c1 := (k1.cell 1).trans rfl;have hB1 := hB0.trans (hb1.mono (by simp));have hY1 := (HYD.o.below hB1 (Nat.le_refl _)).more hB1.size;have K1 := jQ k1;have l1 := k1.lt;have HB1 := jQ hB1;clear k1 k0 hB0 hb1 hR1 hB1;go_wp2_with fail;refine (HV.o _ hY1).mono ?_;rintro e w2 ⟨rfl, hb2⟩;have K2 := jQ (K1.o.below hb2 K1.o.lt);have HB2 := jQ (HB1.o.trans (hb2.mono HB1.o.size));clear hb2 c0 c1 l1 hY1;have c0 := (K2.o.cell 0).trans rfl;have c1 := (K2.o.cell 1).trans rfl;have l2 := K2.o.lt;rcases av with _ | _
 ·go_wp2_with fail
  go_ret3
  exact ⟨⟨0, by rw [<- HR.o]; rfl⟩, HB2.o⟩
 obtain ⟨hyn, hyb⟩ := HS.o rfl;have HYB := jQ hyb;clear hyb;go_wp2_with fail;go_loopw [23] (fun i wr => ∃ k : Nat, k <= bs.length /\ i = .int .i64 k /\ (∀ j (h : j < bs.length), j < k -> Dd.keepsB y bs[j] = true) /\ Below w.heap.size w wr)
  (fun i _ => bs.length - (intOf i).toNat)
 case atStart => exact ⟨0, Nat.zero_le _, rfl, (fun j _ hj => absurd hj (by omega)), HB2.o⟩
 obtain ⟨k, hk, rfl, ha, hB⟩ := hrel;have HA := jQ ha;clear ha c0 c1 l2;by_cases hkl : k < bs.length
 ·obtain ⟨b, off, hA, hb, e0, e1, e2, e3⟩ := (HRD.o.below hB (Nat.le_refl _)).bound hkl;have hof := HOF.o k hkl;obtain ⟨x, hx⟩ := zE (bs[k]);rw [hx] at e0 e1 e2 e3 hof;have HX := jQ hx;obtain ⟨f, t, m, r⟩ := x;dsimp only at e0 e1 e2 e3 hof;obtain ⟨p, rfl⟩ : ∃ p : Nat, f = p := ⟨f.toNat, by omega⟩;obtain ⟨q, rfl⟩ : ∃ q : Nat, t = q := ⟨t.toNat, by omega⟩;have hpy : p < y.length := by omega
  have hqy : q < y.length := by omega
  obtain ⟨b2, off2, hA2, hb2, yp⟩ := (HYD.o.below hB (Nat.le_refl _)).num hpy;obtain ⟨b3, off3, hA3, hb3, yq⟩ := (HYD.o.below hB (Nat.le_refl _)).num hqy;rw [hA2] at hA3;obtain ⟨rfl, rfl⟩ : b2 = b3 /\ off2 = off3 := by simpa using hA3
  obtain ⟨bp1, bp2⟩ := HYB.o p hpy;obtain ⟨bq1, bq2⟩ := HYB.o q hqy;have hkb : Dd.keepsB y ⟨p, q, m, r⟩ = decide (y[q] - y[p] <= m) := by
   have hp : Dd.at_ y (p : Int) = y[p] := by unfold Dd.at_; rw [Int.toNat_natCast, List.getElem?_eq_getElem hpy]; rfl
   have hq : Dd.at_ y (q : Int) = y[q] := by unfold Dd.at_; rw [Int.toNat_natCast, List.getElem?_eq_getElem hqy]; rfl
   show decide (Dd.at_ y (q : Int) - Dd.at_ y (p : Int) <= m) = _;simp only [hp, hq]
  obtain ⟨vp, hvp⟩ := zE (y[p]);obtain ⟨vq, hvq⟩ := zE (y[q]);rw [hvp] at yp bp1 bp2 hkb;rw [hvq] at yq bq1 bq2 hkb;have HKB := jQ hkb;have hpi : (p : Int) < (y.length : Int) := by omega
  have hqi : (q : Int) < (y.length : Int) := by omega
  have hbW : b2 < wr.heap.size := by have := hB.size; omega
  have hwr : IntKind.i64.wrap (vq - vp) = vq - vp := IntWalk.i64_in _ (by omega);have HB := jQ hB;have HBA := jQ (hB.alloc hB.size (.cells #[.int .i64 p, .int .i64 q, .int .i64 m, .int .i64 r] 78));have hyn2 := jQ hyn;rw [hA, hA2];clear hvp hvq hkb hof hA hA2 hA3 hx hyn hB;rcases hdec : decide (m < vq - vp) with _ | _
  ·have HKT := jQ (show Dd.keepsB y ⟨p, q, m, r⟩ = true by rw [HKB.o]; have := of_decide_eq_false hdec; exact decide_eq_true (by omega));go_wp2_with fail;go_quiet (fail);go_wp2_with fail;go_roundw
   case rel =>
    refine ⟨k + 1, by omega, by go_num, fun j hj hjk => ?_, HBA.o.os, HBA.o.tape, HBA.o.output, HBA.o.size, HBA.o.block⟩;by_cases e : j = k
    ·subst e;rw [HX.o];exact HKT.o
    exact HA.o j hj (by omega)
   case measure => simp [intOf]; omega
  have HRF := jQ (show R = false by
   rw [<- HR.o, Bool.true_and, <- Bool.not_eq_true];intro h;have := List.all_eq_true.1 h _ (List.getElem_mem hkl);rw [HX.o, HKB.o] at this;have h1 := of_decide_eq_true this;have h2 := of_decide_eq_true hdec;omega)
  go_wp2_with fail;go_quiet (fail);go_wp2_with fail
  go_ret3
  exact ⟨⟨k, by rw [HRF.o]; rfl⟩, HBA.o.os, HBA.o.tape, HBA.o.output, HBA.o.size, HBA.o.block⟩
 have HRT := jQ (show R = true by
  rw [<- HR.o, Bool.true_and, List.all_eq_true];intro x hx;obtain ⟨j, hj, rfl⟩ := List.getElem_of_mem hx;exact HA.o j hj (by omega))
 have HB := jQ hB;clear hB;go_wp2_with fail
 go_ret3
 exact ⟨⟨0, by rw [HRT.o]; rfl⟩, HB.o⟩
theorem Dl.valid_of {N f t m : Int} (h1 : 0 <= f) (h2 : f < N) (h3 : 0 <= t) (h4 : t < N) (h5 : f ≠ t) (h6 : 0 <= m) (h7 : m <= 1000000) : Dl.valid N ⟨f, t, m, 0⟩ = true := by
 simp only [Dl.valid, Dl.isPoint, Dl.within, Bool.and_eq_true, decide_eq_true_eq, Bool.not_eq_true', beq_eq_false_iff_ne];exact ⟨⟨h1, h2⟩, ⟨h3, h4⟩, h5, ⟨by omega, h7⟩, by omega, by omega⟩
theorem Dl.natP_valid (N : Int) : ∀ n p : Nat, 1 <= p -> (p + n : Int) <= N -> (Dd.natP n p).all (Dl.valid N) = true
  | 0, _, _, _ => rfl
  | n + 1, p, h1, h2 => by
    rw [Dd.natP, List.all_cons, List.all_cons, Dl.natP_valid N n (p + 1) (by omega) (by push_cast at h2 ⊢; omega)];rw [Dl.valid_of (by omega) (by omega) (by omega) (by push_cast at h2; omega) (by omega) (by omega) (by omega), Dl.valid_of (by omega) (by push_cast at h2; omega) (by omega) (by omega) (by omega) (by omega) (by omega)];rfl
theorem Dl.natS_valid {N : Int} {k l m : Nat} (hN : N = 1 + (m : Int) * k) (hk : 1 <= k) (hl : l + 2 <= m) : ∀ n s : Nat, s + n <= k -> (Dd.natS k l n s).all (Dl.valid N) = true
  | 0, _, _ => rfl
  | n + 1, s, h => by
    have h1 : ((l : Int) + 2) * k <= (m : Int) * k := Int.mul_le_mul_of_nonneg_right (by omega) (by omega);have h2 : ((l : Int) + 1) * k = (l : Int) * k + k := by rw [Int.add_mul, Int.one_mul]
    have h3 : ((l : Int) + 2) * k = (l : Int) * k + 2 * k := by rw [Int.add_mul]
    have h4 : 0 <= (l : Int) * k := Int.mul_nonneg (by omega) (by omega);rw [Dd.natS, List.all_cons, Dl.natS_valid hN hk hl n (s + 1) (by omega), Dl.valid_of (by omega) (by omega) (by omega) (by omega) (by omega) (by omega) (by omega)];rfl
theorem Dl.natL_valid {N : Int} {k m : Nat} (hN : N = 1 + (m : Int) * k) (hk : 1 <= k) : ∀ n l : Nat, l + n + 1 <= m -> (Dd.natL k n l).all (Dl.valid N) = true
  | 0, _, _ => rfl
  | n + 1, l, h => by
    rw [Dd.natL, List.all_append, Dl.natS_valid hN hk (by omega) k 0 (by omega), Dl.natL_valid hN hk n (l + 1) (by omega)];rfl
theorem Dd.yAM {f : Dd.Fd} (h : Dd.fieldE f = 0) : (Dd.nat f).length <= 2000 /\ 1 <= Dd.ptsN f /\ Dd.ptsN f <= 128 := by
 obtain ⟨h1, h2, h3, h4, _⟩ := Dd.y0G h;have hp : Dd.ptsN f = 1 + f.li.length * f.st.length := rfl;have := Nat.mul_le_mul h4 h3;have := Nat.mul_le_mul (show f.li.length - 1 <= 10 by omega) h3;unfold Dd.nat;rw [List.length_append, Dd.y1x, Dd.y52];omega
theorem Dl.check_nat {f : Dd.Fd} (h : Dd.fieldE f = 0) : Dl.check (Dd.ptsN f : Nat) (Dd.nat f) = 0 := by
 obtain ⟨h1, h2, h3, h4, _⟩ := Dd.y0G h;obtain ⟨h5, h6, h7⟩ := Dd.yAM h;have hp : ((Dd.ptsN f : Nat) : Int) = 1 + (f.li.length : Int) * f.st.length := by unfold Dd.ptsN; push_cast; rfl
 unfold Dl.check;rw [if_neg (by omega), if_neg (by omega), if_pos];unfold Dd.nat;rw [List.all_append, Dl.natP_valid _ _ 1 (by omega) (by omega), Dl.natL_valid hp (by omega) _ 0 (by omega)];rfl
theorem Dd.yCe (f : Dd.Fd) (y : List Int) : Dd.drw f y = (Dl.areV (Dd.ptsN f : Nat) y && (Dd.nat f).all (Dd.keepsB y)) := by
 have e : (fun v : Int => decide (-400000000 <= v /\ v <= 400000000)) = fun v => Dl.within v 400000000 := by
  funext v;simp [Dl.within]
 unfold Dd.drw Dl.areV;rw [e];have e2 : decide (((y.length : Nat) : Int) = (Dd.ptsN f : Nat)) = decide (y.length = Dd.ptsN f) := by simp [Int.ofNat_inj]
 rw [e2];simp only [Bool.and_assoc]
theorem y3H (v : Fv) (f : Dd.Fd) (A : Option Addr) (c : Nat) (y : List Int) (w : World) (hF : FRd w w.heap.size v f) (hY : Rd w w.heap.size 1 A y.length (icells y)) (hyl : y.length <= 1000000) (h0 : Dd.fieldE f = 0) :
  Calls Tryz.prog 53 #[fval v f, .slice A y.length c] w fun e w' => e = .returned (.bool (Dd.drw f y)) /\ Below w.heap.size w w' := by
 obtain ⟨h1, h2, h3, h4, _⟩ := Dd.y0G h0;have hl1 := hF.l1;have hl2 := hF.l2;have S0 := jQ (Fs.new hF);have B1 := jQ (fun W => y1k v f hl1 hl2 W);have B2 := jQ (fun W => y4W v f (by omega) (by omega) h1 W);have B3 := jQ (fun A1 c1 W hr hy => yAF (Dd.ptsN f) A1 c1 (Dd.nat f) A c y W hr hy hyl (Dl.check_nat h0));have HY := jQ hY;rw [Dd.yCe];obtain ⟨R, hR⟩ := zE ((Dl.areV (Dd.ptsN f : Nat) y && (Dd.nat f).all (Dd.keepsB y)));rw [hR] at B3 ⊢;have hE : (((if Dl.areV (Dd.ptsN f : Nat) y = true then 0 else 1 : Int) == 0) && R) = R := by
  rcases h : Dl.areV (Dd.ptsN f : Nat) y with _ | _
  ·rw [h, Bool.false_and] at hR;subst hR;rfl
  simp
 obtain ⟨er, her⟩ : ∃ er : Int, (if Dl.areV (Dd.ptsN f : Nat) y = true then 0 else 1 : Int) = er := ⟨_, rfl⟩;rw [her] at B3 hE;obtain ⟨N, hN⟩ : ∃ n : Int, (Dd.ptsN f : Int) = n := ⟨_, rfl⟩;obtain ⟨nf, hnf⟩ := zE (Dd.nat f);rw [hN] at B1 B3;rw [hnf] at B2 B3;simp only [y01] at B1 B2 ⊢;obtain ⟨c0, c1, c2, c3, lg⟩ := S0.o.cells;have HE := jQ hE;clear hF hR her hN hnf hE hY h0;go_enter Tryz.func53, Tryz.ntmps53;go_wp2_with fail;have HFC := jQ (fun (V : World) (h : Fs w w.heap.size v f V) => (show ((V.cell? ⟨w.heap.size, 0, none⟩ = some (.slice v.a1 f.st.length v.c1) /\ V.cell? ⟨w.heap.size, 1, none⟩ = some (.slice v.a2 f.li.length v.c2)) /\ (V.cell? ⟨w.heap.size, 2, none⟩ = some (.slice v.a3 f.pa.length v.c3) /\ V.cell? ⟨w.heap.size, 3, none⟩ = some (.slice v.a4 f.va.length v.c4))) from
  ⟨⟨(h.k.cell 0).trans rfl, (h.k.cell 1).trans rfl⟩, (h.k.cell 2).trans rfl, (h.k.cell 3).trans rfl⟩))
 have SD := jQ (S0.o.next (Below.refl _ _).drew)
 go_cut [5, 6, 7] (fun _ s6 s7 wx => s6 = .bool R /\ s7 = .int .i64 er /\ Below w.heap.size w wx)
 case first =>
  go_region_held3 (fun V => ((V.cell? ⟨w.heap.size, 0, none⟩ = some (.slice v.a1 f.st.length v.c1) /\ V.cell? ⟨w.heap.size, 1, none⟩ = some (.slice v.a2 f.li.length v.c2)) /\ (V.cell? ⟨w.heap.size, 2, none⟩ = some (.slice v.a3 f.pa.length v.c3) /\ V.cell? ⟨w.heap.size, 3, none⟩ = some (.slice v.a4 f.va.length v.c4))))
   (go_keep)
   (first
    | (go_at_call 49; refine (B1.o _).mono ?_; rintro e w1 ⟨rfl, hb1⟩; have S1 := jQ (SD.o.next hb1); obtain ⟨⟨y0, y1⟩, y2, y3⟩ := HFC.o _ S1.o)
    | (go_at_call 72; refine (B2.o _).mono ?_; rintro e w2 ⟨A1, c4, rfl, hr2, _, hb2⟩; have S2 := jQ (S1.o.next hb2); have HR2 := jQ hr2; obtain ⟨⟨z0, z1⟩, z2, z3⟩ := HFC.o _ S2.o)
    | (go_at_call 107; refine (B3.o A1 c4 _ HR2.o ((HY.o.below S2.o.b (Nat.le_refl _)).more S2.o.b.size)).mono ?_; rintro e w3 ⟨r, rfl, hb3⟩; have S3 := jQ (S2.o.next hb3); obtain ⟨⟨x0, x1⟩, x2, x3⟩ := HFC.o _ S3.o))
  all_goals
   go_wp2_with fail;go_meet;exact ⟨rfl, rfl, S3.o.b⟩
 obtain ⟨rfl, rfl, hb⟩ := hcut;have HB := jQ hb;clear hb c0 c1 c2 c3;rcases hz : (er == 0) with _ | _
 ·have he := HE.o;rw [hz, Bool.false_and] at he;have HR := jQ he;clear he;go_wp2_with fail;go_ret;exact ⟨by rw [<- HR.o]; rfl, HB.o⟩
 go_wp2_with fail;go_ret;exact ⟨rfl, HB.o⟩
end
end Go.Proofs.YtccikcpcfdjobaaGreatDoor
