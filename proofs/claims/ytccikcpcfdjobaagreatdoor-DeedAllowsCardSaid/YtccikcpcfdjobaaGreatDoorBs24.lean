/-
  What the claim needs: contracts.
-/
import Derived.Test.YtccikcpcfdjobaaGreatDoorBs21
set_option linter.unusedVariables false
set_option linter.unusedSimpArgs false
set_option maxHeartbeats 8000000
set_option maxRecDepth 100000
namespace Go.Proofs.YtccikcpcfdjobaaGreatDoor
section
open Go.RowKit
theorem y7S (dx dy : Int) (w : World) (hx : -100000 <= dx /\ dx <= 100000) (hy : -100000 <= dy /\ dy <= 100000) :
  Calls Tryz.prog 245 #[.int .i64 dx, .int .i64 dy] w fun e w' => e = .returned (.int .i64 (Cs.sq dx dy)) /\ w = w' := by
 obtain ⟨x0, x1⟩ := Cs.y0T (x := dx) (m := 100000) hx.1 hx.2;obtain ⟨y0, y1⟩ := Cs.y0T (x := dy) (m := 100000) hy.1 hy.2;clear hx hy;have hsq : Cs.sq dx dy = 100000000 * (dx * dx + dy * dy) := rfl;rw [hsq];go_enter Tryz.func245, Tryz.ntmps245;go_wp2_with fail;go_ret;exact ⟨rfl, rfl⟩
theorem yBk {a b : Bool} (h : a = b) : Value.bool a = .bool b := by rw [h]
theorem y3U (co : Cs.Co) (east dx dy : Int) (w : World) (hco : Cs.courseOk co = true) (he : -60 <= east /\ east <= 60) (hx : -100000 <= dx /\ dx <= 100000) (hy : -100000 <= dy /\ dy <= 100000) :
  Calls Tryz.prog 214 #[cval co, .int .i64 east, .int .i64 dx, .int .i64 dy] w fun e w' =>
   e = .returned (.int .u8 (Cs.misA ⟨Cs.norm (co.b + east + 90) - 90 - co.n, Cs.norm (co.b + east + 90) - 90 + co.n, Cs.nearF co, Cs.farF co⟩ dx dy)) /\ Below w.heap.size w w' := by
 obtain ⟨v1, v2, v3⟩ := Cs.y3L hco;obtain ⟨_, ⟨n0, n1⟩, ⟨l0, l1⟩, _, ⟨a0, a1⟩, s0, s1⟩ := (Cs.y0Q co).1 hco;have hse := fun w => y25 co east w hco he;rw [Cs.yAG, y0P];rw [y0P] at hse;obtain ⟨L, hL⟩ := zE (Cs.norm (co.b + east + 90) - 90 - co.n);obtain ⟨H, hH⟩ := zE (Cs.norm (co.b + east + 90) - 90 + co.n);simp only [hL, hH] at hse ⊢;have HSE := jQ hse;have hfa : Cs.farF co = co.l * (10000 + co.w + co.s) := rfl;have hne : Cs.nearF co = co.l * (10000 + co.w - co.s) := rfl;obtain ⟨fa, hfa2⟩ := zE (Cs.farF co);obtain ⟨nr, hne2⟩ := zE (Cs.nearF co);rw [hfa2] at hfa v2 v3 ⊢;rw [hne2] at hne v1 v2 ⊢;obtain ⟨f0, f1⟩ := Cs.y0T (x := fa) (m := 1070000000) (by omega) (by omega);obtain ⟨r0, r1⟩ := Cs.y0T (x := nr) (m := 1070000000) (by omega) (by omega);have wf : IntKind.i64.wrap (co.l * (10000 + co.w + co.s)) = fa := by rw [<- hfa]; exact IntWalk.i64_in _ (by omega)
 have wn : IntKind.i64.wrap (co.l * (10000 + co.w - co.s)) = nr := by rw [<- hne]; exact IntWalk.i64_in _ (by omega)
 obtain ⟨x0, x1⟩ := Cs.y0T (x := dx) (m := 100000) hx.1 hx.2;obtain ⟨y0, y1⟩ := Cs.y0T (x := dy) (m := 100000) hy.1 hy.2;have HSQ := jQ fun w => y7S dx dy w hx hy;have hsq : Cs.sq dx dy = 100000000 * (dx * dx + dy * dy) := rfl;have hq0 : 0 <= Cs.sq dx dy /\ Cs.sq dx dy <= 2000000000000000000 := by rw [hsq]; omega
 have hsy : Cs.says ⟨L, H, nr, fa⟩ dx dy = [decide (0 < H) && decide (L < 180), decide (L <= 0) || decide (dy * Cs.sin L <= dx * Cs.cos L), decide (180 <= H) || decide (dx * Cs.cos H <= dy * Cs.sin H), decide (Cs.sq dx dy <= fa * fa),
  (decide (90 < H) && decide (L < 90)) || decide (nr * nr <= Cs.sq dx dy)] := rfl
 rw [hsy];obtain ⟨q, hq⟩ := zE (Cs.sq dx dy);simp only [hq] at HSQ hq0 ⊢;obtain ⟨q0, q1⟩ := hq0;obtain ⟨c1, hc1⟩ := zE ((decide (L <= 0) || decide (dy * Cs.sin L <= dx * Cs.cos L)));obtain ⟨c2, hc2⟩ := zE ((decide (180 <= H) || decide (dx * Cs.cos H <= dy * Cs.sin H)));rw [hc1, hc2];obtain ⟨r, hr⟩ := zE (Cs.firstNo [decide (0 < H) && decide (L < 180), c1, c2, decide (q <= fa * fa), (decide (90 < H) && decide (L < 90)) || decide (nr * nr <= q)] 0);rw [hr];have HC1 := jQ hc1;have HC2 := jQ hc2;have HXY := jQ (And.intro hx hy);have hB0 := (Below.refl w.heap.size w).alloc (Nat.le_refl _) (.cells #[.int .i64 co.b, .int .i64 co.n, .int .i64 co.l, .int .i64 co.y, .int .i64 co.w, .int .i64 co.s] 46);have HB0 := jQ hB0;have KC := jQ (Bk.new w 46 #[.int .i64 co.b, .int .i64 co.n, .int .i64 co.l, .int .i64 co.y, .int .i64 co.w, .int .i64 co.s]);clear hse hL hH hfa hne hfa2 hne2 hsq hsy hq hc1 hc2 hB0 hx hy he hco v1 v2 v3 x0 x1 y0 y1;by_cases g0 : 0 < H /\ L < 180
 ·obtain ⟨g1, g2⟩ := g0;rw [decide_eq_true g1, decide_eq_true g2] at hr;have hr : Cs.firstNo [true, c1, c2, decide (q <= fa * fa), (decide (90 < H) && decide (L < 90)) || decide (nr * nr <= q)] 0 = r := hr;have HR := jQ hr;clear hr;go_enter Tryz.func214, Tryz.ntmps214;go_wp2_with fail;refine (HSE.o _).mono ?_;rintro e w1 ⟨rfl, hb1⟩;have k1 := KC.o.below hb1 (by simp);have HB1 := jQ (HB0.o.trans (hb1.mono HB0.o.size));have p0 := (k1.cell 0).trans rfl;have p1 := (k1.cell 1).trans rfl;have p2 := (k1.cell 2).trans rfl;have p3 := (k1.cell 3).trans rfl;have p4 := (k1.cell 4).trans rfl;have p5 := (k1.cell 5).trans rfl;have lp := k1.lt;clear hb1 k1;go_upto_region 6 with fail
  go_cut [59] (fun s59 wx => s59 = .bool (!c1) /\ Below w.heap.size w wx)
  case first =>
   clear p0 p1 p2 p3 p4 p5 lp;obtain ⟨hx, hy⟩ := HXY.o;by_cases g : 0 < L
   ·have hc := HC1.o;rw [decide_eq_false (by omega : ¬ L <= 0), Bool.false_or] at hc;have HSI := jQ fun w => y2M L w;have HCO := jQ fun w => y2u L w;obtain ⟨m0, m1⟩ := y22 hy (Cs.y3W L);obtain ⟨m2, m3⟩ := y22 hx (Cs.y0v L);obtain ⟨si, hsi⟩ := zE (Cs.sin L);obtain ⟨ci, hci⟩ := zE (Cs.cos L);simp only [hsi, hci] at HSI HCO m0 m1 m2 m3 hc;have w1 : IntKind.i64.wrap (dy * si) = dy * si := IntWalk.i64_in _ (by omega);have w2 : IntKind.i64.wrap (dx * ci) = dx * ci := IntWalk.i64_in _ (by omega);have HC := jQ hc;clear hsi hci hc hx hy;go_wp2_with (first
     | (go_at_call 243; refine (HSI.o _).mono ?_; rintro e w8 ⟨rfl, hb8⟩)
     | (go_at_call 244; refine (HCO.o _).mono ?_; rintro e w9 ⟨rfl, hb9⟩))
    go_meet;have hB8 := HB1.o.trans (hb8.mono HB1.o.size);exact ⟨yBk (by rw [<- HC.o]; by_cases h : dy * si <= dx * ci <;> simp [h] <;> omega), hB8.trans (hb9.mono hB8.size)⟩
   have hc := HC1.o;rw [decide_eq_true (by omega : L <= 0), Bool.true_or] at hc;have HC := jQ hc;clear hc hx hy;go_wp2_with fail;go_meet;exact ⟨yBk (by rw [<- HC.o]; rfl), HB1.o⟩
  obtain ⟨rfl, hB2⟩ := hcut;obtain ⟨W2, hW2⟩ : ∃ W, W = wc := ⟨_, rfl⟩;subst hW2;clear p0 p1 p2 p3 p4 p5 lp HC1;have HB2 := jQ hB2;clear hB2 HB1;rcases c1 with _ | _
  ·go_wp2_with fail;go_ret;have h : 2 = r := HR.o;subst h;exact ⟨rfl, HB2.o⟩
  go_upto_region 8 with fail
  go_cut [72] (fun s72 wx => s72 = .bool (!c2) /\ Below w.heap.size w wx)
  case first =>
   obtain ⟨hx, hy⟩ := HXY.o;by_cases g : H < 180
   ·have hc := HC2.o;rw [decide_eq_false (by omega : ¬ 180 <= H), Bool.false_or] at hc;have HSI := jQ fun w => y2M H w;have HCO := jQ fun w => y2u H w;obtain ⟨m0, m1⟩ := y22 hy (Cs.y3W H);obtain ⟨m2, m3⟩ := y22 hx (Cs.y0v H);obtain ⟨si, hsi⟩ := zE (Cs.sin H);obtain ⟨ci, hci⟩ := zE (Cs.cos H);simp only [hsi, hci] at HSI HCO m0 m1 m2 m3 hc;have w1 : IntKind.i64.wrap (dy * si) = dy * si := IntWalk.i64_in _ (by omega);have w2 : IntKind.i64.wrap (dx * ci) = dx * ci := IntWalk.i64_in _ (by omega);have HC := jQ hc;clear hsi hci hc hx hy;go_wp2_with (first
     | (go_at_call 243; refine (HSI.o _).mono ?_; rintro e w8 ⟨rfl, hb8⟩)
     | (go_at_call 244; refine (HCO.o _).mono ?_; rintro e w9 ⟨rfl, hb9⟩))
    go_meet;have hB8 := HB2.o.trans (hb8.mono HB2.o.size);exact ⟨yBk (by rw [<- HC.o]; by_cases h : dx * ci <= dy * si <;> simp [h] <;> omega), hB8.trans (hb9.mono hB8.size)⟩
   have hc := HC2.o;rw [decide_eq_true (by omega : 180 <= H), Bool.true_or] at hc;have HC := jQ hc;clear hc hx hy;go_wp2_with fail;go_meet;exact ⟨yBk (by rw [<- HC.o]; rfl), HB2.o⟩
  obtain ⟨rfl, hB3⟩ := hcut;obtain ⟨W3, hW3⟩ : ∃ W, W = wc := ⟨_, rfl⟩;subst hW3;have HB3 := jQ hB3;clear hB3 HB2 HC2;rcases c2 with _ | _
  ·go_wp2_with fail;go_ret;have h : 3 = r := HR.o;subst h;exact ⟨rfl, HB3.o⟩
  by_cases g3 : q <= fa * fa
  ·have hr := HR.o;rw [decide_eq_true g3] at hr;by_cases g4 : (90 < H /\ L < 90) ∨ nr * nr <= q
   ·have HX := jQ (show 0 = r by rw [<- hr, show ((decide (90 < H) && decide (L < 90)) || decide (nr * nr <= q)) = true by simpa using g4]; rfl);clear hr HR;have g5 : (90 < H /\ L < 90) ∨ (H <= 90 /\ nr * nr <= q) ∨ (90 < H /\ 90 <= L /\ nr * nr <= q) := by omega
    clear g4;rcases g5 with ⟨g5, g6⟩ | ⟨g5, g6⟩ | ⟨g5, g6, g7⟩
    all_goals
     go_wp2_with (go_at_call 245; refine (HSQ.o _).mono ?_; rintro e w' ⟨rfl, rfl⟩);go_ret;have h := HX.o;subst h;exact ⟨rfl, HB3.o⟩
   have HX := jQ (show 5 = r by rw [<- hr, show ((decide (90 < H) && decide (L < 90)) || decide (nr * nr <= q)) = false by rw [Bool.or_eq_false_iff, Bool.and_eq_false_iff, decide_eq_false_iff_not, decide_eq_false_iff_not, decide_eq_false_iff_not]; omega]; rfl);clear hr HR;have g5 : (H <= 90 /\ q < nr * nr) ∨ (90 < H /\ 90 <= L /\ q < nr * nr) := by omega
   clear g4;rcases g5 with ⟨g5, g6⟩ | ⟨g5, g6, g7⟩
   all_goals
    go_wp2_with (go_at_call 245; refine (HSQ.o _).mono ?_; rintro e w' ⟨rfl, rfl⟩);go_ret;have h := HX.o;subst h;exact ⟨rfl, HB3.o⟩
  have hr := HR.o;rw [decide_eq_false g3] at hr;have HX := jQ (show 4 = r from hr);clear hr HR;go_wp2_with (go_at_call 245; refine (HSQ.o _).mono ?_; rintro e w' ⟨rfl, rfl⟩);go_ret;have h := HX.o;subst h;exact ⟨rfl, HB3.o⟩
 have hX : 1 = r := by
  rw [<- hr, show (decide (0 < H) && decide (L < 180)) = false by rw [Bool.and_eq_false_iff, decide_eq_false_iff_not, decide_eq_false_iff_not]; omega];rfl
 have HX := jQ hX;have g5 : H <= 0 ∨ (0 < H /\ 180 <= L) := by omega
 clear hX hr g0;rcases g5 with g5 | ⟨g5, g6⟩
 all_goals
  go_enter Tryz.func214, Tryz.ntmps214;go_wp2_with fail;refine (HSE.o _).mono ?_;rintro e w1 ⟨rfl, hb1⟩;have k1 := KC.o.below hb1 (by simp);have HB1 := jQ (HB0.o.trans (hb1.mono HB0.o.size));have p0 := (k1.cell 0).trans rfl;have p1 := (k1.cell 1).trans rfl;have p2 := (k1.cell 2).trans rfl;have p3 := (k1.cell 3).trans rfl;have p4 := (k1.cell 4).trans rfl;have p5 := (k1.cell 5).trans rfl;have lp := k1.lt;clear hb1 k1;go_wp2_with fail;go_ret;have h := HX.o;subst h;exact ⟨rfl, HB1.o⟩
end

section
open Go.RowKit
theorem y8X (vs : List (Int × Int)) (co : Cs.Co) (dx dy : Int) (w : World) (hco : Cs.courseOk co = true) (hx : -100000 <= dx /\ dx <= 100000) (hy : -100000 <= dy /\ dy <= 100000) :
  Calls Tryz.prog 168 #[cval co, .int .i64 (Cs.dec vs co.y).1, .int .i64 dx, .int .i64 dy] w fun e w' => e = .returned (.int .u8 (Cs.misF vs co dx dy)) /\ Below w.heap.size w w' := by
 have hdr := Cs.y29 vs co.y;obtain ⟨⟨b0, b1⟩, _⟩ := (Cs.y0Q co).1 hco;by_cases hd : dx < 0
 ·have hm := fun w => y3U (Cs.turn co) (Cs.dec vs co.y).1 (-dx) (-dy) w (Cs.y3a hco) hdr (by omega) (by omega);have hr : Cs.misF vs co dx dy = Cs.misA ⟨Cs.norm ((Cs.turn co).b + (Cs.dec vs co.y).1 + 90) - 90 - (Cs.turn co).n, Cs.norm ((Cs.turn co).b + (Cs.dec vs co.y).1 + 90) - 90 + (Cs.turn co).n, Cs.nearF (Cs.turn co), Cs.farF (Cs.turn co)⟩ (-dx) (-dy) := by
   rw [Cs.misF, if_pos hd, Cs.aimEast, if_pos hd];rfl
  rw [hr];obtain ⟨r, hrr⟩ := zE (Cs.misA ⟨Cs.norm ((Cs.turn co).b + (Cs.dec vs co.y).1 + 90) - 90 - (Cs.turn co).n, Cs.norm ((Cs.turn co).b + (Cs.dec vs co.y).1 + 90) - 90 + (Cs.turn co).n, Cs.nearF (Cs.turn co), Cs.farF (Cs.turn co)⟩ (-dx) (-dy));rw [hrr] at hm ⊢;have htv : cval (Cs.turn co) = .agg #[.int .i64 (Cs.norm (co.b + 180)), .int .i64 co.n, .int .i64 co.l, .int .i64 co.y, .int .i64 co.w, .int .i64 co.s] := rfl;rw [htv] at hm;rw [y0P];have hnm := fun w => y1F (co.b + 180) w;obtain ⟨nb, hnb⟩ := zE (Cs.norm (co.b + 180));rw [hnb] at hm hnm;obtain ⟨e, he⟩ := zE ((Cs.dec vs co.y).1);rw [he] at hm ⊢;have HM := jQ hm;have HNM := jQ hnm;have HB0 := jQ ((Below.refl w.heap.size w).alloc (Nat.le_refl _) (.cells #[.int .i64 nb, .int .i64 co.n, .int .i64 co.l, .int .i64 co.y, .int .i64 co.w, .int .i64 co.s] 46));clear hm hr hrr htv hnm hnb he hdr hco;go_enter Tryz.func168, Tryz.ntmps168;go_wp2_with (go_at_call 121; refine (HNM.o _).mono ?_; rintro e w' ⟨rfl, rfl⟩);refine (HM.o _).mono ?_;rintro e w2 ⟨rfl, hb2⟩;have HB2 := jQ (HB0.o.trans (hb2.mono HB0.o.size));clear hb2;go_wp2_with fail;go_ret;exact ⟨rfl, HB2.o⟩
 have hm := fun w => y3U co (Cs.dec vs co.y).1 dx dy w hco hdr hx hy;have hr : Cs.misF vs co dx dy = Cs.misA ⟨Cs.norm (co.b + (Cs.dec vs co.y).1 + 90) - 90 - co.n, Cs.norm (co.b + (Cs.dec vs co.y).1 + 90) - 90 + co.n, Cs.nearF co, Cs.farF co⟩ dx dy := by
  rw [Cs.misF, if_neg hd, Cs.aimEast, if_neg hd];rfl
 rw [hr];obtain ⟨r, hrr⟩ := zE (Cs.misA ⟨Cs.norm (co.b + (Cs.dec vs co.y).1 + 90) - 90 - co.n, Cs.norm (co.b + (Cs.dec vs co.y).1 + 90) - 90 + co.n, Cs.nearF co, Cs.farF co⟩ dx dy);rw [hrr] at hm ⊢;rw [y0P] at hm ⊢;obtain ⟨e, he⟩ := zE ((Cs.dec vs co.y).1);rw [he] at hm ⊢;have HM := jQ hm;have HB0 := jQ ((Below.refl w.heap.size w).alloc (Nat.le_refl _) (.cells #[.int .i64 co.b, .int .i64 co.n, .int .i64 co.l, .int .i64 co.y, .int .i64 co.w, .int .i64 co.s] 46));clear hm hr hrr he hdr hco;go_enter Tryz.func168, Tryz.ntmps168;go_wp2_with fail;refine (HM.o _).mono ?_;rintro e w2 ⟨rfl, hb2⟩;have HB2 := jQ (HB0.o.trans (hb2.mono HB0.o.size));clear hb2;go_wp2_with fail;go_ret;exact ⟨rfl, HB2.o⟩
namespace Cs
theorem y7T {vs : List (Int × Int)} {co : Co} {dx dy : Int} (h : checkE vs [co] ≠ 0) : stepE vs co dx dy = checkE vs [co] := by
 have he : eastE vs [co] dx = checkE vs [co] := by rw [eastE, if_pos h]
 rw [stepE, he, if_pos h]
theorem yAh {vs : List (Int × Int)} {co : Co} {dx dy : Int} (h : checkE vs [co] = 0) (hd : dx = 0 ∨ dx < -100000 ∨ 100000 < dx ∨ dy < -100000 ∨ 100000 < dy) : stepE vs co dx dy = 1 := by
 by_cases h1 : dx = 0 ∨ dx < -100000 ∨ 100000 < dx
 ·have he : eastE vs [co] dx = 1 := by rw [eastE, if_neg (by rw [h]; simp), if_pos h1]
  rw [stepE, he, if_pos (by simp)]
 have he : eastE vs [co] dx = 0 := by rw [eastE, if_neg (by rw [h]; simp), if_neg h1]
 rw [stepE, he, if_neg (by simp), if_pos (by omega)]
theorem yBa {vs : List (Int × Int)} {co : Co} {dx dy : Int} (h : checkE vs [co] = 0) (hd : ¬ (dx = 0 ∨ dx < -100000 ∨ 100000 < dx ∨ dy < -100000 ∨ 100000 < dy)) : stepE vs co dx dy = 0 := by
 have he : eastE vs [co] dx = 0 := by rw [eastE, if_neg (by rw [h]; simp), if_neg (by omega)]
 rw [stepE, he, if_neg (by simp), if_neg (by omega)]
end Cs
theorem y4Y (A : Option Addr) (c : Nat) (vs : List (Int × Int)) (co : Cs.Co) (dx dy : Int) (w : World) (hR : Rd w w.heap.size 2 A vs.length (vcells vs)) (hl : vs.length <= 1000000) :
  Calls Tryz.prog 167 #[.slice A vs.length c, cval co, .int .i64 dx, .int .i64 dy] w fun e w' => e = .returned (.tuple #[.int .i64 (if Cs.stepE vs co dx dy = 0 then (Cs.dec vs co.y).1 else 0), .int .i64 (Cs.stepE vs co dx dy)]) /\ Below w.heap.size w w' := by
 have hse := fun w h => y7K A c vs co w h hl;have hde := fun w h => y1Z A c vs co.y w h hl;have hB0 := (Below.refl w.heap.size w).alloc (Nat.le_refl _) (.cells #[.int .i64 co.b, .int .i64 co.n, .int .i64 co.l, .int .i64 co.y, .int .i64 co.w, .int .i64 co.s] 46);have HRD := jQ ((hR.below hB0 (Nat.le_refl _)).more hB0.size);have HRR := jQ hR;have HB0 := jQ hB0;have KC := jQ (Bk.new w 46 #[.int .i64 co.b, .int .i64 co.n, .int .i64 co.l, .int .i64 co.y, .int .i64 co.w, .int .i64 co.s]);rw [y0P] at hse ⊢;clear hB0 hR;by_cases hs : Cs.checkE vs [co] = 0
 ·have hsf : (Cs.sectorF vs co).2.2 = 0 := by rw [Cs.sectorF, if_neg (by rw [hs]; simp)]
  obtain ⟨⟨sl, sh, se⟩, hsf2⟩ : ∃ q, Cs.sectorF vs co = q := ⟨_, rfl⟩;rw [hsf2] at hse hsf;dsimp only at hse hsf;subst hsf;have HSE := jQ hse;by_cases ha : dx = 0 ∨ dx < -100000 ∨ 100000 < dx ∨ dy < -100000 ∨ 100000 < dy
  ·rw [Cs.yAh hs ha, if_neg (by simp)];have hcase : dx = 0 ∨ (dx ≠ 0 /\ dx < -100000) ∨ (dx ≠ 0 /\ -100000 <= dx /\ 100000 < dx) ∨ (dx ≠ 0 /\ -100000 <= dx /\ dx <= 100000 /\ dy < -100000) ∨ (dx ≠ 0 /\ -100000 <= dx /\ dx <= 100000 /\ -100000 <= dy /\ 100000 < dy) := by omega
   clear hse hde hs hsf2 ha;rcases hcase with h0 | ⟨h0, h1⟩ | ⟨h0, h1, h2⟩ | ⟨h0, h1, h2, h3⟩ | ⟨h0, h1, h2, h3, h4⟩
   all_goals
    (first | (have hz : (dx == 0) = true := beq_iff_eq.2 h0) | (have hz : (dx == 0) = false := beq_eq_false_iff_ne.2 h0))
    go_enter Tryz.func167, Tryz.ntmps167;go_wp2_with fail;refine (HSE.o _ HRD.o).mono ?_;rintro e w1 ⟨rfl, hb1⟩;have HB1 := jQ (HB0.o.trans (hb1.mono HB0.o.size));clear hb1;go_wp2_with fail;go_ret2;exact ⟨rfl, HB1.o⟩
  rw [Cs.yBa hs ha, if_pos rfl];obtain ⟨⟨x, kn⟩, hx⟩ : ∃ q, Cs.dec vs co.y = q := ⟨_, rfl⟩;rw [hx] at hde ⊢;dsimp only at hde ⊢;have HDE := jQ hde;have hz : (dx == 0) = false := beq_eq_false_iff_ne.2 (by omega);have h1 : -100000 <= dx := by omega
  have h2 : dx <= 100000 := by omega
  have h3 : -100000 <= dy := by omega
  have h4 : dy <= 100000 := by omega
  clear hse hde hs hsf2 ha hx;go_enter Tryz.func167, Tryz.ntmps167;go_wp2_with fail;refine (HSE.o _ HRD.o).mono ?_;rintro e w1 ⟨rfl, hb1⟩;have hB1 := HB0.o.trans (hb1.mono HB0.o.size);have HR1 := jQ ((HRR.o.below hB1 (Nat.le_refl _)).more hB1.size);have k1 := KC.o.below hb1 (by simp);have HB1 := jQ hB1;have p0 := (k1.cell 0).trans rfl;have p1 := (k1.cell 1).trans rfl;have p2 := (k1.cell 2).trans rfl;have p3 := (k1.cell 3).trans rfl;have p4 := (k1.cell 4).trans rfl;have p5 := (k1.cell 5).trans rfl;have lp := k1.lt;clear hb1 k1 hB1;go_wp2_with fail;refine (HDE.o _ HR1.o).mono ?_;rintro e w2 ⟨rfl, hb2⟩;have HB2 := jQ (HB1.o.trans (hb2.mono HB1.o.size));clear hb2;go_wp2_with fail;go_ret2;exact ⟨rfl, HB2.o⟩
 have hsf : Cs.sectorF vs co = (0, 0, Cs.checkE vs [co]) := by rw [Cs.sectorF, if_pos hs]
 rw [Cs.y7T hs, if_neg hs];rw [hsf] at hse;dsimp only at hse;have hne : (Cs.checkE vs [co] != 0) = true := by simp [hs]
 obtain ⟨s, hss⟩ := zE (Cs.checkE vs [co]);rw [hss] at hse hne ⊢;have HSE := jQ hse;clear hse hde hs hsf hss;go_enter Tryz.func167, Tryz.ntmps167;go_wp2_with fail;refine (HSE.o _ HRD.o).mono ?_;rintro e w1 ⟨rfl, hb1⟩;have HB1 := jQ (HB0.o.trans (hb1.mono HB0.o.size));clear hb1;go_wp2_with fail;go_ret2;exact ⟨rfl, HB1.o⟩
theorem y7J (A : Option Addr) (c : Nat) (vs : List (Int × Int)) (co : Cs.Co) (dx dy : Int) (w : World) (hR : Rd w w.heap.size 2 A vs.length (vcells vs)) (hl : vs.length <= 1000000) :
  Calls Tryz.prog 110 #[.slice A vs.length c, cval co, .int .i64 dx, .int .i64 dy] w fun e w' => e = .returned (.tuple #[.int .u8 (Cs.misfitF vs co dx dy).1, .int .i64 (Cs.misfitF vs co dx dy).2]) /\ Below w.heap.size w w' := by
 have hop := fun w h => y4Y A c vs co dx dy w h hl;have hei := fun w h1 h2 h3 => y8X vs co dx dy w h1 h2 h3;have hB0 := (Below.refl w.heap.size w).alloc (Nat.le_refl _) (.cells #[.int .i64 co.b, .int .i64 co.n, .int .i64 co.l, .int .i64 co.y, .int .i64 co.w, .int .i64 co.s] 46);have HRD := jQ ((hR.below hB0 (Nat.le_refl _)).more hB0.size);have HB0 := jQ hB0;have KC := jQ (Bk.new w 46 #[.int .i64 co.b, .int .i64 co.n, .int .i64 co.l, .int .i64 co.y, .int .i64 co.w, .int .i64 co.s]);rw [y0P] at hop hei ⊢;clear hB0 hR;by_cases he : Cs.stepE vs co dx dy = 0
 ·obtain ⟨g1, g2, g3, g4, g5, g6⟩ := Cs.y97 he;have hr : Cs.misfitF vs co dx dy = (Cs.misF vs co dx dy, 0) := by rw [Cs.misfitF, if_neg (by rw [he]; simp)]
  rw [hr];dsimp only;rw [if_pos he, he] at hop;obtain ⟨x, hx⟩ := zE ((Cs.dec vs co.y).1);rw [hx] at hop hei;obtain ⟨r, hrr⟩ := zE (Cs.misF vs co dx dy);rw [hrr] at hei ⊢;have HOP := jQ hop;have HEI := jQ fun w => hei w g1 ⟨g3, g4⟩ ⟨g5, g6⟩;clear hop hei hr he hx hrr g1 g2 g3 g4 g5 g6;go_enter Tryz.func110, Tryz.ntmps110;go_wp2_with fail;refine (HOP.o _ HRD.o).mono ?_;rintro e w1 ⟨rfl, hb1⟩;have k1 := KC.o.below hb1 (by simp);have HB1 := jQ (HB0.o.trans (hb1.mono HB0.o.size));have p0 := (k1.cell 0).trans rfl;have p1 := (k1.cell 1).trans rfl;have p2 := (k1.cell 2).trans rfl;have p3 := (k1.cell 3).trans rfl;have p4 := (k1.cell 4).trans rfl;have p5 := (k1.cell 5).trans rfl;have lp := k1.lt;clear hb1 k1;go_wp2_with fail;refine (HEI.o _).mono ?_;rintro e w2 ⟨rfl, hb2⟩;have HB2 := jQ (HB1.o.trans (hb2.mono HB1.o.size));clear hb2;go_wp2_with fail;go_ret2;exact ⟨rfl, HB2.o⟩
 have hr : Cs.misfitF vs co dx dy = (0, Cs.stepE vs co dx dy) := by rw [Cs.misfitF, if_pos he]
 rw [hr];dsimp only;rw [if_neg he] at hop;have hne : (Cs.stepE vs co dx dy != 0) = true := by simp [he]
 obtain ⟨s, hss⟩ := zE (Cs.stepE vs co dx dy);rw [hss] at hop hne ⊢;have HOP := jQ hop;clear hop hei hr he hss;go_enter Tryz.func110, Tryz.ntmps110;go_wp2_with fail;refine (HOP.o _ HRD.o).mono ?_;rintro e w1 ⟨rfl, hb1⟩;have HB1 := jQ (HB0.o.trans (hb1.mono HB0.o.size));clear hb1;go_wp2_with fail;go_ret2;exact ⟨rfl, HB1.o⟩
end
end Go.Proofs.YtccikcpcfdjobaaGreatDoor
