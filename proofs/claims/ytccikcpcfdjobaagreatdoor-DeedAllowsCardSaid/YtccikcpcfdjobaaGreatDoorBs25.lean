/-
  What the claims of layer deed need of the texts Ri.
-/
import Derived.Test.YtccikcpcfdjobaaGreatDoorBs24
set_option linter.unusedVariables false
set_option linter.unusedSimpArgs false
set_option maxHeartbeats 8000000
set_option maxRecDepth 100000
namespace Go.Proofs.YtccikcpcfdjobaaGreatDoor
section
open Go.RowKit
namespace Cs
def intN (a : Aim) (dx : Int) : Int × Int × Bool := if (intA a dx).2.2 then ((intA a dx).1, (intA a dx).2.1, true) else (0, 0, false)
theorem y9y {a : Aim} {dx : Int} (h : a.high <= 0 ∨ 180 <= a.low ∨ room a dx < 0) : intN a dx = (0, 0, false) := by rw [intN, y74 h]; rfl
theorem yA0 {a : Aim} {dx : Int} (h : ¬ (a.high <= 0 ∨ 180 <= a.low ∨ room a dx < 0)) (hl : lo3 a dx <= hi3 a dx) : intN a dx = (lo3 a dx, hi3 a dx, true) := by rw [intN, y2r h]; simp [hl]
theorem y9z {a : Aim} {dx : Int} (h : ¬ (a.high <= 0 ∨ 180 <= a.low ∨ room a dx < 0)) (hl : ¬ lo3 a dx <= hi3 a dx) : intN a dx = (0, 0, false) := by rw [intN, y2r h]; simp [hl]
end Cs
structure RefP (w wx : World) (cs : Array Value) : Prop where
 below : Below w.heap.size w wx
 bk : Bk wx w.heap.size 46 cs
theorem RefP.step {w wx wy : World} {cs : Array Value} (h : RefP w wx cs) (hb : Below wx.heap.size wx wy) : RefP w wy cs := ⟨h.below.trans (hb.mono h.below.size), h.bk.below hb h.bk.lt⟩
theorem y2L (co : Cs.Co) (east dx : Int) (w : World) (hco : Cs.courseOk co = true) (he : -60 <= east /\ east <= 60) (hx : -100000 <= dx /\ dx <= 100000) :
  Calls Tryz.prog 215 #[cval co, .int .i64 east, .int .i64 dx] w fun e w' =>
   e = .returned (.tuple #[.int .i64 (Cs.intN ⟨Cs.norm (co.b + east + 90) - 90 - co.n, Cs.norm (co.b + east + 90) - 90 + co.n, Cs.nearF co, Cs.farF co⟩ dx).1, .int .i64 (Cs.intN ⟨Cs.norm (co.b + east + 90) - 90 - co.n, Cs.norm (co.b + east + 90) - 90 + co.n, Cs.nearF co, Cs.farF co⟩ dx).2.1, .bool (Cs.intN ⟨Cs.norm (co.b + east + 90) - 90 - co.n, Cs.norm (co.b + east + 90) - 90 + co.n, Cs.nearF co, Cs.farF co⟩ dx).2.2]) /\ Below w.heap.size w w' := by
 obtain ⟨v1, v2, v3⟩ := Cs.y3L hco;obtain ⟨_, ⟨n0, n1⟩, ⟨l0, l1⟩, _, ⟨a0, a1⟩, s0, s1⟩ := (Cs.y0Q co).1 hco;have hse := fun w => y25 co east w hco he;rw [y0P] at hse ⊢;obtain ⟨L, hL⟩ := zE (Cs.norm (co.b + east + 90) - 90 - co.n);obtain ⟨H, hH⟩ := zE (Cs.norm (co.b + east + 90) - 90 + co.n);simp only [hL, hH] at hse ⊢;have HSE := jQ hse;have hfa : Cs.farF co = co.l * (10000 + co.w + co.s) := rfl;have hne : Cs.nearF co = co.l * (10000 + co.w - co.s) := rfl;obtain ⟨fa, hfa2⟩ := zE (Cs.farF co);obtain ⟨nr, hne2⟩ := zE (Cs.nearF co);rw [hfa2] at hfa v2 v3 ⊢;rw [hne2] at hne v1 v2 ⊢;obtain ⟨f0, f1⟩ := Cs.y0T (x := fa) (m := 1070000000) (by omega) (by omega);obtain ⟨r0, r1⟩ := Cs.y0T (x := nr) (m := 1070000000) (by omega) (by omega);have wf : IntKind.i64.wrap (co.l * (10000 + co.w + co.s)) = fa := by rw [<- hfa]; exact IntWalk.i64_in _ (by omega)
 have wn : IntKind.i64.wrap (co.l * (10000 + co.w - co.s)) = nr := by rw [<- hne]; exact IntWalk.i64_in _ (by omega)
 obtain ⟨x0, x1⟩ := Cs.y0T (x := dx) (m := 100000) hx.1 hx.2;have hB0 := (Below.refl w.heap.size w).alloc (Nat.le_refl _) (.cells #[.int .i64 co.b, .int .i64 co.n, .int .i64 co.l, .int .i64 co.y, .int .i64 co.w, .int .i64 co.s] 46);have HP0 := jQ (show RefP w (w.alloc (.cells #[.int .i64 co.b, .int .i64 co.n, .int .i64 co.l, .int .i64 co.y, .int .i64 co.w, .int .i64 co.s] 46)) #[.int .i64 co.b, .int .i64 co.n, .int .i64 co.l, .int .i64 co.y, .int .i64 co.w, .int .i64 co.s] from ⟨hB0, Bk.new w _ _⟩);clear hse hL hH hB0 hco he;by_cases g0 : 0 < H /\ L < 180
 ·obtain ⟨g1, g2⟩ := g0;have hrm : Cs.room ⟨L, H, nr, fa⟩ dx = fa * fa / 100000000 - dx * dx := rfl;obtain ⟨rm, hrm2⟩ := zE (Cs.room ⟨L, H, nr, fa⟩ dx);rw [hrm2] at hrm;have hrr : -10000000000 <= rm /\ rm <= 11449000000 := by omega
  obtain ⟨rm0, rm1⟩ := hrr;have hfl := fun w => y1y (fa * fa) 100000000 (by omega) (by omega) (by omega) w;rw [show Cs.flo (fa * fa) 100000000 = rm + dx * dx by unfold Cs.flo; omega] at hfl;have HFF := jQ hfl;have hdd : IntKind.i64.wrap (rm + dx * dx - dx * dx) = rm := by rw [show rm + dx * dx - dx * dx = rm by omega]; exact IntWalk.i64_in _ (by omega)
  -- the ends at which the sector's two rays stand
  obtain ⟨A1, hA1⟩ := zE ((if 0 < L then min 100000 (Cs.flo (dx * Cs.cos L) (Cs.sin L)) else 100000));obtain ⟨B1, hB1⟩ := zE ((if H < 180 then max (-100000) (Cs.cei (dx * Cs.cos H) (Cs.sin H)) else -100000));have HA1 := jQ hA1;have HB1 := jQ hB1;have HXX := jQ hx;have hno : (H <= 0 ∨ 180 <= L ∨ Cs.room ⟨L, H, nr, fa⟩ dx < 0) ↔ rm < 0 := by rw [hrm2]; omega
  obtain ⟨r, hr⟩ := zE (Cs.intN ⟨L, H, nr, fa⟩ dx);rw [hr];have HNO := jQ fun (h : rm < 0) => (show ((0 : Int), (0 : Int), false) = r by rw [<- hr, Cs.y9y (hno.2 h)]);obtain ⟨rt, hrt⟩ := zE (Cs.root rm);have hro := fun w => y6R rm (by omega) (by omega) w;rw [hrt] at hro;have HRO := jQ hro;obtain ⟨q0, q1⟩ := Cs.y1A (n := rm) (by omega);rw [hrt] at q0 q1;obtain ⟨ce, hcc⟩ := zE (Cs.cei (nr * nr) 100000000);have hce : 0 <= ce /\ ce <= 11449000000 := by rw [<- hcc]; unfold Cs.cei; omega
  have hci := fun w => y1y (-(nr * nr)) 100000000 (by omega) (by omega) (by omega) w;rw [show Cs.flo (-(nr * nr)) 100000000 = -ce by rw [<- hcc]; unfold Cs.flo Cs.cei; omega] at hci;have HCI := jQ hci;obtain ⟨le, hll⟩ := zE (Cs.rootUp (ce - dx * dx));have hru := fun w => y7M (ce - dx * dx) (by omega) (by omega) w;have hlr : 0 <= le /\ le <= 3037000500 := by
   have := Cs.y1A (n := ce - dx * dx) (by omega);have h0 := Cs.y1T (n := ce - dx * dx) (by omega);rw [hll] at h0;refine ⟨h0, ?_⟩;rw [<- hll, Cs.rootUp];split <;> omega
  rw [hll] at hru;have HRU := jQ hru;have HFIN := jQ (show ¬ rm < 0 -> (if (if H <= 90 then max (max B1 (-rt)) le else max B1 (-rt)) <= (if 90 <= L then min (min A1 rt) (-le) else min A1 rt) then ((if H <= 90 then max (max B1 (-rt)) le else max B1 (-rt)), (if 90 <= L then min (min A1 rt) (-le) else min A1 rt), true) else ((0 : Int), (0 : Int), false)) = r by
   intro hn;have hl3 : Cs.lo3 ⟨L, H, nr, fa⟩ dx = if H <= 90 then max (max B1 (-rt)) le else max B1 (-rt) := by
    have e : Cs.lo2 ⟨L, H, nr, fa⟩ dx = max B1 (-rt) := by
     rw [Cs.lo2, Cs.hi1, hrm2, hrt, <- hB1];dsimp only;split <;> omega
    rw [Cs.lo3, e, Cs.least];dsimp only;rw [hcc, hll]
   have hh3 : Cs.hi3 ⟨L, H, nr, fa⟩ dx = if 90 <= L then min (min A1 rt) (-le) else min A1 rt := by
    have e : Cs.hi2 ⟨L, H, nr, fa⟩ dx = min A1 rt := by
     rw [Cs.hi2, Cs.hi1, hrm2, hrt, <- hA1];dsimp only;split <;> omega
    rw [Cs.hi3, e, Cs.least];dsimp only;rw [hcc, hll]
   rw [<- hl3, <- hh3, <- hr];by_cases hle : Cs.lo3 ⟨L, H, nr, fa⟩ dx <= Cs.hi3 ⟨L, H, nr, fa⟩ dx
   ·rw [if_pos hle, Cs.yA0 (fun h => hn (hno.1 h)) hle]
   rw [if_neg hle, Cs.y9z (fun h => hn (hno.1 h)) hle])
  obtain ⟨c0, c1⟩ := hce;obtain ⟨e0, e1⟩ := hlr;have hcd : IntKind.i64.wrap (ce - dx * dx) = ce - dx * dx := IntWalk.i64_in _ (by omega);have hnn : -nr * nr = -(nr * nr) := Int.neg_mul _ _;obtain ⟨x2, x3⟩ := hx;clear hfl hA1 hB1 hno hr hro hrt hcc hci hll hru hrm hrm2 hfa hfa2 hne hne2;go_enter Tryz.func215, Tryz.ntmps215;go_wp2_with fail;refine (HSE.o _).mono ?_;rintro e w1 ⟨rfl, hb1⟩;have HP1 := jQ (HP0.o.step hb1);clear hb1
  go_upto_if 30 with fail
  go_cut [12] (fun s12 wx => s12 = .int .i64 A1 /\ RefP w wx #[.int .i64 co.b, .int .i64 co.n, .int .i64 co.l, .int .i64 co.y, .int .i64 co.w, .int .i64 co.s])
  case first =>
   have hx := HXX.o;by_cases g : 0 < L
   ·have hc := HA1.o;rw [if_pos g] at hc;have hsp := Cs.y0n g g2;obtain ⟨m2, m3⟩ := y22 hx (Cs.y0v L);have HSI := jQ fun w => y2M L w;have HCO := jQ fun w => y2u L w;have hfl := fun w => y1y (dx * Cs.cos L) (Cs.sin L) (by omega) (by omega) hsp w;obtain ⟨si, hsi⟩ := zE (Cs.sin L);obtain ⟨ci, hci⟩ := zE (Cs.cos L);simp only [hsi, hci] at HSI HCO m2 m3 hc hfl;obtain ⟨fl, hff⟩ := zE (Cs.flo (dx * ci) si);simp only [hff] at hc hfl;have w2 : IntKind.i64.wrap (dx * ci) = dx * ci := IntWalk.i64_in _ (by omega);have HFL := jQ hfl;have HC := jQ hc;clear hsi hci hc hx hfl hff hsp;go_wp2_with (first
     | (go_at_call 244; refine (HCO.o _).mono ?_; rintro e w8 ⟨rfl, hb8⟩)
     | (go_at_call 243; refine (HSI.o _).mono ?_; rintro e w9 ⟨rfl, hb9⟩)
     | (go_at_call 246; refine (HFL.o _).mono ?_; rintro e w' ⟨rfl, rfl⟩))
    all_goals
     go_meet;have h9 := (HP1.o.step hb8).step hb9;have hh := HC.o;exact ⟨vint (by omega), h9⟩
   have hc := HA1.o;rw [if_neg g] at hc;have HC := jQ hc;clear hc hx;go_wp2_with fail;go_meet;have hh := HC.o;exact ⟨vint (by omega), HP1.o⟩
  obtain ⟨rfl, hP⟩ := hcut;obtain ⟨W2, hW2⟩ : ∃ W, W = wc := ⟨_, rfl⟩;subst hW2;have HP2 := jQ hP;clear hP HP1
  go_upto_if 41 with fail
  go_cut [11] (fun s11 wx => s11 = .int .i64 B1 /\ RefP w wx #[.int .i64 co.b, .int .i64 co.n, .int .i64 co.l, .int .i64 co.y, .int .i64 co.w, .int .i64 co.s])
  case first =>
   have hx := HXX.o;by_cases g : H < 180
   ·have hc := HB1.o;rw [if_pos g] at hc;have hsp := Cs.y0n g1 g;obtain ⟨m2, m3⟩ := y22 hx (Cs.y0v H);have HSI := jQ fun w => y2M H w;have HCO := jQ fun w => y2u H w;have hng : -dx * Cs.cos H = -(dx * Cs.cos H) := Int.neg_mul _ _;have hfl := fun w => y1y (-dx * Cs.cos H) (Cs.sin H) (by omega) (by omega) hsp w;have hfr := Cs.y2B (-dx * Cs.cos H) (Cs.sin H) (by omega) (by omega) hsp;have hcx : Cs.cei (dx * Cs.cos H) (Cs.sin H) = -Cs.flo (-dx * Cs.cos H) (Cs.sin H) := by rw [hng]; rfl
    rw [hcx] at hc;clear hcx;obtain ⟨si, hsi⟩ := zE (Cs.sin H);obtain ⟨ci, hci⟩ := zE (Cs.cos H);simp only [hsi, hci] at HSI HCO m2 m3 hc hfl hfr hng;obtain ⟨fl, hff⟩ := zE (Cs.flo (-dx * ci) si);simp only [hff] at hc hfl hfr;have w2 : IntKind.i64.wrap (-dx * ci) = -dx * ci := IntWalk.i64_in _ (by omega);have w3 : IntKind.i64.wrap (-fl) = -fl := IntWalk.i64_in _ (by omega);obtain ⟨fr0, fr1⟩ := hfr;have HFL := jQ hfl;have HC := jQ hc;clear hsi hci hc hx hfl hff hsp hng;go_wp2_with (first
     | (go_at_call 244; refine (HCO.o _).mono ?_; rintro e w8 ⟨rfl, hb8⟩)
     | (go_at_call 243; refine (HSI.o _).mono ?_; rintro e w9 ⟨rfl, hb9⟩)
     | (go_at_call 246; refine (HFL.o _).mono ?_; rintro e w' ⟨rfl, rfl⟩))
    all_goals
     go_meet;have h9 := (HP2.o.step hb8).step hb9;have hh := HC.o;exact ⟨vint (by omega), h9⟩
   have hc := HB1.o;rw [if_neg g] at hc;have HC := jQ hc;clear hc hx;go_wp2_with fail;go_meet;have hh := HC.o;exact ⟨vint (by omega), HP2.o⟩
  obtain ⟨rfl, hP⟩ := hcut;obtain ⟨W3, hW3⟩ : ∃ W, W = wc := ⟨_, rfl⟩;subst hW3;have p0 := (hP.bk.cell 0).trans rfl;have p1 := (hP.bk.cell 1).trans rfl;have p2 := (hP.bk.cell 2).trans rfl;have p3 := (hP.bk.cell 3).trans rfl;have p4 := (hP.bk.cell 4).trans rfl;have p5 := (hP.bk.cell 5).trans rfl;have lp := hP.bk.lt;have HP3 := jQ hP;clear hP HP2;by_cases g3 : rm < 0
  ·have HX := jQ (HNO.o g3);clear HNO HFIN;go_wp2_with (go_at_call 246; refine (HFF.o _).mono ?_; rintro e w' ⟨rfl, rfl⟩)
   go_ret3
   have h := HX.o;subst h;exact ⟨rfl, HP3.o.below⟩
  have hx2 := HFIN.o (by omega);obtain ⟨A2, hA2⟩ := zE (min A1 rt);obtain ⟨B2, hB2⟩ := zE (max B1 (-rt));rw [hA2, hB2] at hx2;obtain ⟨A3, hA3⟩ := zE ((if 90 <= L then min A2 (-le) else A2));obtain ⟨B3, hB3⟩ := zE ((if H <= 90 then max B2 le else B2));rw [hA3, hB3] at hx2;have HX := jQ hx2;have HA2 := jQ hA2;have HB2 := jQ hB2;have HA3 := jQ hA3;have HB3 := jQ hB3;clear HNO HFIN hx2 hA2 hB2 hA3 hB3;go_upto_region 14 with (go_at_call 246; refine (HFF.o _).mono ?_; rintro e w' ⟨rfl, rfl⟩)
  go_cut [12] (fun s12 wx => s12 = .int .i64 A2 /\ RefP w wx #[.int .i64 co.b, .int .i64 co.n, .int .i64 co.l, .int .i64 co.y, .int .i64 co.w, .int .i64 co.s])
  case first =>
   clear p0 p1 p2 p3 p4 p5 lp;go_wp2_with (go_at_call 247; refine (HRO.o _).mono ?_; rintro e w' ⟨rfl, rfl⟩)
   all_goals
    go_meet;have hh := HA2.o;exact ⟨vint (by omega), HP3.o⟩
  obtain ⟨rfl, hP⟩ := hcut;clear p0 p1 p2 p3 p4 p5 lp;obtain ⟨W4, hW4⟩ : ∃ W, W = wc := ⟨_, rfl⟩;subst hW4;have HP4 := jQ hP;clear hP HP3;go_upto_region 15 with fail
  go_cut [11] (fun s11 wx => s11 = .int .i64 B2 /\ RefP w wx #[.int .i64 co.b, .int .i64 co.n, .int .i64 co.l, .int .i64 co.y, .int .i64 co.w, .int .i64 co.s])
  case first =>
   go_wp2_with (go_at_call 247; refine (HRO.o _).mono ?_; rintro e w' ⟨rfl, rfl⟩)
   all_goals
    go_meet;have hh := HB2.o;exact ⟨vint (by omega), HP4.o⟩
  obtain ⟨rfl, hP⟩ := hcut;obtain ⟨W5, hW5⟩ : ∃ W, W = wc := ⟨_, rfl⟩;subst hW5;have p0 := (hP.bk.cell 0).trans rfl;have p1 := (hP.bk.cell 1).trans rfl;have p2 := (hP.bk.cell 2).trans rfl;have p3 := (hP.bk.cell 3).trans rfl;have p4 := (hP.bk.cell 4).trans rfl;have p5 := (hP.bk.cell 5).trans rfl;have lp := hP.bk.lt;have HP5 := jQ hP;clear hP HP4
  go_upto_if 105 with (go_at_call 246; refine (HCI.o _).mono ?_; rintro e w' ⟨rfl, rfl⟩)
  clear p0 p1 p2 p3 p4 p5 lp
  go_cut [11] (fun s11 wx => s11 = .int .i64 B3 /\ RefP w wx #[.int .i64 co.b, .int .i64 co.n, .int .i64 co.l, .int .i64 co.y, .int .i64 co.w, .int .i64 co.s])
  case first =>
   by_cases g : H <= 90
   all_goals
    have hh := HB3.o
    (first | rw [if_pos g] at hh | rw [if_neg g] at hh)
    have HXX2 := jQ hh;clear hh;go_wp2_with (go_at_call 248; refine (HRU.o _).mono ?_; rintro e w' ⟨rfl, rfl⟩)
   all_goals
    go_meet;have hh := HXX2.o;exact ⟨vint (by omega), HP5.o⟩
  obtain ⟨rfl, hP⟩ := hcut;obtain ⟨W6, hW6⟩ : ∃ W, W = wc := ⟨_, rfl⟩;subst hW6;have HP6 := jQ hP;clear hP HP5
  go_upto_if 111 with fail
  go_cut [12] (fun s12 wx => s12 = .int .i64 A3 /\ RefP w wx #[.int .i64 co.b, .int .i64 co.n, .int .i64 co.l, .int .i64 co.y, .int .i64 co.w, .int .i64 co.s])
  case first =>
   by_cases g : 90 <= L
   all_goals
    have hh := HA3.o
    (first | rw [if_pos g] at hh | rw [if_neg g] at hh)
    have HXX2 := jQ hh;clear hh;go_wp2_with (go_at_call 248; refine (HRU.o _).mono ?_; rintro e w' ⟨rfl, rfl⟩)
   all_goals
    go_meet;have hh := HXX2.o;exact ⟨vint (by omega), HP6.o⟩
  obtain ⟨rfl, hP⟩ := hcut;have hx2 := HX.o;by_cases hle : B3 <= A3
  ·rw [if_pos hle] at hx2;have HY := jQ hx2;clear hx2;go_wp2_with fail
   go_ret3
   have h := HY.o;subst h;exact ⟨rfl, hP.below⟩
  rw [if_neg hle] at hx2;have HY := jQ hx2;clear hx2;go_wp2_with fail
  go_ret3
  have h := HY.o;subst h;exact ⟨rfl, hP.below⟩
 rw [Cs.y9y (by dsimp only; omega)];have hcase : H <= 0 ∨ (0 < H /\ 180 <= L) := by omega
 clear g0 hfa hne hfa2 hne2;rcases hcase with g5 | ⟨g5, g6⟩
 all_goals
  go_enter Tryz.func215, Tryz.ntmps215;go_wp2_with fail;refine (HSE.o _).mono ?_;rintro e w1 ⟨rfl, hb1⟩;have HP1 := jQ (HP0.o.step hb1);clear hb1;go_wp2_with fail
  go_ret3
  exact ⟨rfl, HP1.o.below⟩
end
end Go.Proofs.YtccikcpcfdjobaaGreatDoor
