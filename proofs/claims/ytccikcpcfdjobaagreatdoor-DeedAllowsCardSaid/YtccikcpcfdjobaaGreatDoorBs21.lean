/-
  What the claim needs: contracts.
-/
import Derived.Test.YtccikcpcfdjobaaGreatDoorBs04
import Derived.Test.YtccikcpcfdjobaaGreatDoorBs19
set_option linter.unusedVariables false
set_option linter.unusedSimpArgs false
set_option maxHeartbeats 8000000
set_option maxRecDepth 100000
namespace Go.Proofs.YtccikcpcfdjobaaGreatDoor
section
open Go.RowKit
namespace Cs
theorem y9r {a : Aim} {dx : Int} (h : room a dx <= 9223372036854775807) : 0 <= hi1 a dx /\ hi1 a dx <= 100000 := by
 have := y1A h;unfold hi1;omega
theorem y5q {a : Aim} {dx : Int} (ok : AimOk a) (hx : -100000 <= dx /\ dx <= 100000) : (-9223372036854775807 <= (intA a dx).1 /\ (intA a dx).1 <= 9223372036854775807) /\ (-9223372036854775807 <= (intA a dx).2.1 /\ (intA a dx).2.1 <= 9223372036854775807) := by
 by_cases hno : a.high <= 0 ∨ 180 <= a.low ∨ room a dx < 0
 ·rw [y74 hno];dsimp only;omega
 rw [y2r hno];dsimp only;have o1 := ok.near0;have o2 := ok.nf;have o3 := ok.far1;obtain ⟨s0, s1⟩ := Cs.y0T (x := a.far) (m := 1070000000) (by omega) (by omega);obtain ⟨t0, t1⟩ := Cs.y0T (x := a.near) (m := 1070000000) (by omega) (by omega);obtain ⟨x0, x1⟩ := Cs.y0T (x := dx) (m := 100000) hx.1 hx.2;have hr : room a dx <= 9223372036854775807 := by unfold room; omega
 have h1 := y9r hr;have hl : 0 <= least a dx /\ least a dx <= 3037000500 := by
  have hc : cei (a.near * a.near) 100000000 - dx * dx <= 9223372036854775807 := by unfold cei; omega
  have := y1A hc;have h0 := y1T hc;unfold least;refine ⟨h0, ?_⟩;unfold rootUp;split <;> omega
 have h2 : -9223372036854775807 <= hi2 a dx /\ hi2 a dx <= 100000 := by
  unfold hi2;split
  ·rename_i g;obtain ⟨p0, p1⟩ := y22 hx (y0v a.low);have := y2B (dx * cos a.low) (sin a.low) (by omega) (by omega) (y0n g (by omega));omega
  omega
 have l2 : -100000 <= lo2 a dx /\ lo2 a dx <= 9223372036854775807 := by
  unfold lo2;split
  ·rename_i g;obtain ⟨p0, p1⟩ := y22 hx (y0v a.high);have := y2B (-(dx * cos a.high)) (sin a.high) (by omega) (by omega) (y0n (by omega) g);unfold flo at this;unfold cei;omega
  omega
 constructor
 ·unfold lo3;split <;> omega
 unfold hi3;split <;> omega
end Cs
theorem y4m (A : Option Addr) (c : Nat) (vs : List (Int × Int)) (co : Cs.Co) (dx : Int) (w : World) (hs : Sn w) (hR : Rd w w.heap.size 2 A vs.length (vcells vs)) (hl : vs.length <= 1000000) (hco : Cs.courseOk co = true)
  (hx : -100000 <= dx /\ dx <= 100000) :
  Calls Tryz.prog 251 #[.slice A vs.length c, cval co, .int .i64 dx] w fun e w' => e = .returned (.tuple #[.int .i64 (Cs.intF vs co dx).1, .int .i64 (Cs.intF vs co dx).2.1, .bool (Cs.intF vs co dx).2.2]) /\ Below w.heap.size w w' := by
 have hae := fun w h => y6d A c vs co dx w h hl hco;rw [y0P] at hae ⊢;have ok := Cs.y2Q vs hco dx;have hB0 := (Below.refl w.heap.size w).alloc (Nat.le_refl _) (.cells #[.int .i64 co.b, .int .i64 co.n, .int .i64 co.l, .int .i64 co.y, .int .i64 co.w, .int .i64 co.s] 46);have HRD := jQ ((hR.below hB0 (Nat.le_refl _)).more hB0.size);have HB0 := jQ hB0;have HS := jQ hs;clear hB0 hs hR;by_cases hd : 0 < dx
 ·have hr : Cs.intF vs co dx = Cs.intA (Cs.aimEast vs co dx) dx := by rw [Cs.intF, if_pos hd]
  rw [hr];have hia := fun w h => y2g (Cs.aimEast vs co dx) dx w h ok hx;obtain ⟨⟨il, ih, io⟩, hi⟩ : ∃ q, Cs.intA (Cs.aimEast vs co dx) dx = q := ⟨_, rfl⟩;rw [hi] at hia ⊢;obtain ⟨am, ham⟩ := zE (Cs.aimEast vs co dx);simp only [ham] at hae hia;obtain ⟨al, ah, an, af⟩ := am;have hav : aval ⟨al, ah, an, af⟩ = .agg #[.int .i64 al, .int .i64 ah, .int .i64 an, .int .i64 af] := rfl;rw [hav] at hae hia;dsimp only at hia ⊢;have HAE := jQ hae;have HIA := jQ hia;clear hae hia hr hi ham hav ok hx;go_enter Tryz.func251, Tryz.ntmps251;go_wp2_with fail;refine (HAE.o _ HRD.o).mono ?_;rintro e w1 ⟨rfl, hb1⟩;have hB1 := HB0.o.trans (hb1.mono HB0.o.size);have hB2 := hB1.alloc hB1.size (.cells #[.int .i64 al, .int .i64 ah, .int .i64 an, .int .i64 af] 275);have HS2 := jQ (HS.o.step hB2);have HB2 := jQ hB2;clear hb1 hB1 hB2;go_wp2_with fail;refine (HIA.o _ HS2.o).mono ?_;rintro e w2 ⟨rfl, hb2⟩;have HB3 := jQ (HB2.o.trans (hb2.mono HB2.o.size));clear hb2;go_wp2_with fail
  go_ret3
  exact ⟨rfl, HB3.o⟩
 have hr : Cs.intF vs co dx = (-(Cs.intA (Cs.aimEast vs co dx) (-dx)).2.1, -(Cs.intA (Cs.aimEast vs co dx) (-dx)).1, (Cs.intA (Cs.aimEast vs co dx) (-dx)).2.2) := by rw [Cs.intF, if_neg hd]
 rw [hr];have hia := fun w h => y2g (Cs.aimEast vs co dx) (-dx) w h ok (by omega);obtain ⟨⟨i0, i1⟩, i2, i3⟩ := Cs.y5q (dx := -dx) ok (by omega);obtain ⟨⟨il, ih, io⟩, hi⟩ : ∃ q, Cs.intA (Cs.aimEast vs co dx) (-dx) = q := ⟨_, rfl⟩;rw [hi] at hia i0 i1 i2 i3 ⊢;obtain ⟨am, ham⟩ := zE (Cs.aimEast vs co dx);simp only [ham] at hae hia;obtain ⟨al, ah, an, af⟩ := am;have hav : aval ⟨al, ah, an, af⟩ = .agg #[.int .i64 al, .int .i64 ah, .int .i64 an, .int .i64 af] := rfl;rw [hav] at hae hia;dsimp only at hia i0 i1 i2 i3 ⊢;have HAE := jQ hae;have HIA := jQ hia;clear hae hia hr hi ham hav ok;go_enter Tryz.func251, Tryz.ntmps251;go_wp2_with fail;refine (HAE.o _ HRD.o).mono ?_;rintro e w1 ⟨rfl, hb1⟩;have hB1 := HB0.o.trans (hb1.mono HB0.o.size);have hB2 := hB1.alloc hB1.size (.cells #[.int .i64 al, .int .i64 ah, .int .i64 an, .int .i64 af] 275);have HS2 := jQ (HS.o.step hB2);have HB2 := jQ hB2;clear hb1 hB1 hB2;go_wp2_with fail;refine (HIA.o _ HS2.o).mono ?_;rintro e w2 ⟨rfl, hb2⟩;have HB3 := jQ (HB2.o.trans (hb2.mono HB2.o.size));clear hb2;go_wp2_with fail
 go_ret3
 exact ⟨rfl, HB3.o⟩
theorem y0X {fn : Func} {t u v x : Tmp} (h : fn.results = #[.tmp t, .tmp u, .tmp v, .tmp x]) (tmps : Array Value) (P : Program) (w : World) :
  (results fn tmps).run P w = .ok (.tuple #[tmps.getD t undef, tmps.getD u undef, tmps.getD v undef, tmps.getD x undef]) w := by
 simp [results, h]
namespace Cs
theorem y8H {vs : List (Int × Int)} {cs : List Co} (h : checkE vs cs = 0) : ∀ j (hj : j < cs.length), courseOk cs[j] = true := fun j hj => by
 rcases hc : courseOk cs[j] with _ | _
 ·by_cases hv : varsE vs = 0
  ·rw [y0w hv hj hc] at h;cases h
  rw [y1K hv] at h;exact absurd h hv
 rfl
theorem y9T (vs : List (Int × Int)) (cs : List Co) (dx lo hi : Int) {k : Nat} (hk : k < cs.length) {f t : Int} {ok : Bool} (hi' : intF vs cs[k] dx = (f, t, ok)) :
  comG vs dx (lo, hi) (cs.drop k) = if ok && decide (max lo f <= min hi t) then comG vs dx (max lo f, min hi t) (cs.drop (k + 1)) else (0, 0, false) := by
 rw [List.drop_eq_getElem_cons hk, comG, hi']
end Cs
theorem y85 (A A2 : Option Addr) (c c2 : Nat) (vs : List (Int × Int)) (cs : List Cs.Co) (dx : Int) (w : World) (hs : Sn w) (hR : Rd w w.heap.size 2 A vs.length (vcells vs)) (hl : vs.length <= 1000000)
  (hC : Rd w w.heap.size 6 A2 cs.length (ccells cs)) (hlc : cs.length <= 1000000) :
  Calls Tryz.prog 222 #[.slice A vs.length c, .slice A2 cs.length c2, .int .i64 dx] w fun e w' => e = .returned (.tuple #[.int .i64 (Cs.comF vs cs dx).1.1, .int .i64 (Cs.comF vs cs dx).1.2.1, .bool (Cs.comF vs cs dx).1.2.2, .int .i64 (Cs.comF vs cs dx).2]) /\ Below w.heap.size w w' := by
 have hea := y4k A A2 c c2 vs cs dx w hR hl hC hlc;by_cases h40 : 40 < cs.length
 ·have hr : Cs.comF vs cs dx = ((0, 0, false), 2) := by rw [Cs.comF, if_pos h40]
  rw [hr];clear hr hea hR hC;go_enter Tryz.func222, Tryz.ntmps222;go_wp2_with fail;refine bodyPost_ret (y0X rfl _ _ _) rfl ?_;exact ⟨rfl, Below.refl _ _⟩
 by_cases h0 : cs.length = 0
 ·have hr : Cs.comF vs cs dx = ((0, 0, false), 5) := by rw [Cs.comF, if_neg h40, if_pos h0]
  rw [hr];clear hr hea hR hC;have hn0 : ((cs.length : Int) == 0) = true := by simp [h0]
  go_enter Tryz.func222, Tryz.ntmps222;go_wp2_with fail;refine bodyPost_ret (y0X rfl _ _ _) rfl ?_;exact ⟨rfl, Below.refl _ _⟩
 have hn0 : ((cs.length : Int) == 0) = false := beq_eq_false_iff_ne.2 (by omega);by_cases he : Cs.eastE vs cs dx = 0
 ·have hr : Cs.comF vs cs dx = (Cs.comG vs dx (-100000, 100000) cs, 0) := by rw [Cs.comF, if_neg h40, if_neg h0, if_neg (by rw [he]; simp)]
  rw [hr];dsimp only;rw [he] at hea;obtain ⟨g1, g2, g3, g4⟩ := Cs.y1t he;have hall := Cs.y8H g1;obtain ⟨r, hrr⟩ := zE (Cs.comG vs dx (-100000, 100000) cs);rw [hrr];have HR0 := jQ (show Cs.comG vs dx (-100000, 100000) (cs.drop 0) = r by simpa using hrr);have HEA := jQ hea;have HRR := jQ hR;have HCC := jQ hC;have HS := jQ hs;have HIN := jQ fun (k : Nat) (hk : k < cs.length) w h1 h2 => y4m A c vs cs[k] dx w h1 h2 hl (hall k hk) ⟨g3, g4⟩;clear hea hr hrr he g1 hall hR hC hs;go_enter Tryz.func222, Tryz.ntmps222;go_wp2_with fail;refine HEA.o.mono ?_;rintro e w1 ⟨rfl, hb1⟩;go_wp2_with fail;go_loopw [6, 7, 31] (fun L H I wr => ∃ (k : Nat) (lo hi : Int), k <= cs.length /\ I = .int .i64 k /\ L = .int .i64 lo /\ H = .int .i64 hi /\ Cs.comG vs dx (lo, hi) (cs.drop k) = r /\ Below w.heap.size w wr) (fun _ _ I _ => cs.length - (intOf I).toNat)
  case atStart => exact ⟨0, -100000, 100000, Nat.zero_le _, rfl, rfl, rfl, HR0.o, hb1⟩
  clear hb1 HEA HR0;obtain ⟨k, lo, hi, hk, rfl, rfl, rfl, hF, hB⟩ := hrel;by_cases hlt : k < cs.length
  ·obtain ⟨bv, ov, rfl, hbv, e0, e1, e2, e3, e4, e5⟩ := (HCC.o.below hB (Nat.le_refl _)).course hlt;obtain ⟨⟨f, t, ok⟩, hin⟩ : ∃ q, Cs.intF vs cs[k] dx = q := ⟨_, rfl⟩;have hcc := HIN.o k hlt;rw [hin, y0P] at hcc;rw [Cs.y9T vs cs dx lo hi hlt hin] at hF;dsimp only at hcc;obtain ⟨co, hv⟩ := zE (cs[k]);rw [hv] at e0 e1 e2 e3 e4 e5 hcc;have hB2 := hB.alloc hB.size (.cells #[.int .i64 co.b, .int .i64 co.n, .int .i64 co.l, .int .i64 co.y, .int .i64 co.w, .int .i64 co.s] 46);have HR2 := jQ ((HRR.o.below hB2 (Nat.le_refl _)).more hB2.size);have HS2 := jQ (HS.o.step hB2);have HB2 := jQ hB2;have HCK := jQ hcc;clear hv hin hcc hB hB2;by_cases hok : (ok && decide (max lo f <= min hi t)) = true
   ·rw [if_pos hok] at hF;simp only [Bool.and_eq_true, decide_eq_true_eq] at hok;obtain ⟨rfl, hle⟩ := hok;have HF := jQ hF;clear hF;go_wp2_with fail;refine (HCK.o _ HS2.o HR2.o).mono ?_;rintro e w2 ⟨rfl, hb2⟩;have HB3 := jQ (HB2.o.trans (hb2.mono HB2.o.size));clear hb2;go_wp2_with fail
    all_goals
     go_roundw
     case rel => exact ⟨k + 1, max lo f, min hi t, by omega, by go_num, vint (by omega), vint (by omega), HF.o, HB3.o⟩
     case measure => simp [intOf]; omega
   rw [if_neg hok] at hF;have hno : ok = false ∨ (ok = true /\ min hi t < max lo f) := by
    rcases ok with _ | _
    ·exact Or.inl rfl
    simp at hok;exact Or.inr ⟨rfl, by omega⟩
   have HF := jQ hF;clear hF hok;rcases hno with rfl | ⟨rfl, hlt2⟩
   all_goals
    go_wp2_with fail;refine (HCK.o _ HS2.o HR2.o).mono ?_;rintro e w2 ⟨rfl, hb2⟩;have HB3 := jQ (HB2.o.trans (hb2.mono HB2.o.size));clear hb2;go_wp2_with fail
    all_goals
     refine bodyPost_ret (y0X rfl _ _ _) rfl ?_;have h := HF.o;subst h;exact ⟨rfl, HB3.o⟩
  obtain rfl : k = cs.length := by omega
  rw [List.drop_length] at hF;have HF := jQ (show (lo, hi, true) = r from hF);have HB2 := jQ hB;clear hF hB;go_wp2_with fail;refine bodyPost_ret (y0X rfl _ _ _) rfl ?_;have h := HF.o;subst h;exact ⟨rfl, HB2.o⟩
 have hr : Cs.comF vs cs dx = ((0, 0, false), Cs.eastE vs cs dx) := by rw [Cs.comF, if_neg h40, if_neg h0, if_pos he]
 rw [hr];dsimp only;have hne : (Cs.eastE vs cs dx != 0) = true := by simp [he]
 obtain ⟨s, hss⟩ := zE (Cs.eastE vs cs dx);rw [hss] at hea hne ⊢;have HEA := jQ hea;clear hea he hss hr hR hC;go_enter Tryz.func222, Tryz.ntmps222;go_wp2_with fail;refine HEA.o.mono ?_;rintro e w1 ⟨rfl, hb1⟩;go_wp2_with fail;refine bodyPost_ret (y0X rfl _ _ _) rfl ?_;exact ⟨rfl, hb1⟩
theorem y5V (A : Option Addr) (c : Nat) (vs : List (Int × Int)) (co : Cs.Co) (dx : Int) (w : World) (hs : Sn w) (hR : Rd w w.heap.size 2 A vs.length (vcells vs)) (hl : vs.length <= 1000000) :
  Calls Tryz.prog 183 #[.slice A vs.length c, cval co, .int .i64 dx] w fun e w' => e = .returned (.tuple #[.int .i64 (Cs.comF vs [co] dx).1.1, .int .i64 (Cs.comF vs [co] dx).1.2.1, .bool (Cs.comF vs [co] dx).1.2.2, .int .i64 (Cs.comF vs [co] dx).2]) /\ Below w.heap.size w w' := by
 have hcm := fun A2 w hs (h : Rd w w.heap.size 2 A vs.length (vcells vs)) hC => y85 A A2 c 1 vs [co] dx w hs h hl hC (by simp);have hfr : ∀ t, Rd ((w.alloc (.cells #[.int .i64 co.b, .int .i64 co.n, .int .i64 co.l, .int .i64 co.y, .int .i64 co.w, .int .i64 co.s] 46)).alloc (.cells #[.int .i64 co.b, .int .i64 co.n, .int .i64 co.l, .int .i64 co.y, .int .i64 co.w, .int .i64 co.s] t))
   ((w.alloc (.cells #[.int .i64 co.b, .int .i64 co.n, .int .i64 co.l, .int .i64 co.y, .int .i64 co.w, .int .i64 co.s] 46)).alloc (.cells #[.int .i64 co.b, .int .i64 co.n, .int .i64 co.l, .int .i64 co.y, .int .i64 co.w, .int .i64 co.s] t)).heap.size 6 (some ⟨w.heap.size + 1, 0, none⟩) [co].length (ccells [co]) := fun t => by
  have := yCv (w.alloc (.cells #[.int .i64 co.b, .int .i64 co.n, .int .i64 co.l, .int .i64 co.y, .int .i64 co.w, .int .i64 co.s] 46)) t co;rw [World.size_alloc] at this;rw [World.size_alloc, World.size_alloc];exact this
 have hbl : ∀ o o2, Below w.heap.size w ((w.alloc o).alloc o2) := fun o o2 => ((Below.refl _ _).alloc (Nat.le_refl _) _).alloc (by simp) _;have hrd : ∀ o o2, Rd ((w.alloc o).alloc o2) ((w.alloc o).alloc o2).heap.size 2 A vs.length (vcells vs) := fun o o2 => (hR.below (hbl o o2) (Nat.le_refl _)).more (hbl o o2).size;have HFR := jQ hfr;have HBL := jQ hbl;have HRD := jQ hrd;have HS := jQ fun o o2 => hs.step (hbl o o2);obtain ⟨⟨⟨lo, hi, ok⟩, e⟩, hr⟩ : ∃ q, Cs.comF vs [co] dx = q := ⟨_, rfl⟩;rw [hr] at hcm ⊢;rw [y0P];dsimp only at hcm ⊢;have HCM := jQ hcm;clear hfr hbl hrd hR hs hr hcm;go_enter Tryz.func183, Tryz.ntmps183;go_wp2_with fail;refine (HCM.o _ _ (HS.o _ _) (HRD.o _ _) (HFR.o _)).mono ?_;rintro e w1 ⟨rfl, hb1⟩;have HB1 := jQ ((HBL.o _ _).trans (hb1.mono (HBL.o _ _).size));clear hb1;go_wp2_with fail;refine bodyPost_ret (y0X rfl _ _ _) rfl ?_;exact ⟨rfl, HB1.o⟩
end

section
open Go.RowKit
theorem Dd.yC1 {f : Dd.Fd} {i : Nat} (h : i < f.st.length) : Dd.xAt f (i : Int) = f.st[i].2 := by
 unfold Dd.xAt;rw [Int.toNat_natCast, List.getElem?_eq_getElem h];rfl
theorem y2A (v : Fv) (f : Dd.Fd) (x : Dd.Ca) (w : World) (hF : FRd w w.heap.size v f) (hS : Sn w) (hr : ∀ t ∈ f.st, 0 <= t.2 /\ t.2 <= 100000) (ha : 0 <= x.a /\ x.a < f.st.length) (hb : 0 <= x.b /\ x.b < f.st.length) :
    Calls Tryz.prog 125 #[fval v f, caval x] w fun e w' => e = .returned (.tuple #[.int .i64 (Cs.comF f.va [x.c] (Dd.run f x)).1.1, .int .i64 (Cs.comF f.va [x.c] (Dd.run f x)).1.2.1, .bool (Cs.comF f.va [x.c] (Dd.run f x)).1.2.2, .int .i64 (Cs.comF f.va [x.c] (Dd.run f x)).2]) /\ Below w.heap.size w w' := by
  obtain ⟨k, l, o, p, q, s, e, cb, cn, cl, cy, cw, cs⟩ := x;dsimp only at ha hb ⊢;obtain ⟨p, rfl⟩ : ∃ n : Nat, p = n := ⟨p.toNat, by omega⟩;obtain ⟨q, rfl⟩ : ∃ n : Nat, q = n := ⟨q.toNat, by omega⟩;have hp : p < f.st.length := by omega
  have hq : q < f.st.length := by omega
  have hrun : Dd.run f ⟨k, l, o, p, q, s, e, cb, cn, cl, cy, cw, cs⟩ = f.st[q].2 - f.st[p].2 := by
    show Dd.xAt f (q : Int) - Dd.xAt f (p : Int) = _;rw [Dd.yC1 hq, Dd.yC1 hp]
  rw [hrun];have ra := hr _ (List.getElem_mem hp);have rb := hr _ (List.getElem_mem hq);obtain ⟨b, off, hA, hbb, _, y1⟩ := hF.st.station hp;obtain ⟨b', off', hA', hbb', _, y2⟩ := hF.st.station hq;rw [hA] at hA';obtain ⟨rfl, rfl⟩ : b = b' /\ off = off' := by simpa using hA'
  obtain ⟨xa, hxa⟩ := zE (f.st[p].2);obtain ⟨xb, hxb⟩ := zE (f.st[q].2);rw [hxa] at ra y1 ⊢;rw [hxb] at rb y2 ⊢;have hwl : IntKind.i64.wrap (xb - xa) = xb - xa := IntWalk.i64_in _ (by omega);have hl4 := hF.l4;have HI := jQ (fun W hs hR => y5V v.a4 v.c4 f.va ⟨cb, cn, cl, cy, cw, cs⟩ (xb - xa) W hs hR hl4);obtain ⟨R, hR⟩ := zE (Cs.comF f.va [⟨cb, cn, cl, cy, cw, cs⟩] (xb - xa));rw [hR] at HI ⊢;have hva := hF.va;simp only [y01, y03];rw [hA];have hb1 : Below w.heap.size w (w.alloc (.cells #[.slice (some ⟨b, off, none⟩) f.st.length v.c1, .slice v.a2 f.li.length v.c2, .slice v.a3 f.pa.length v.c3, .slice v.a4 f.va.length v.c4] 27)) := (Below.refl _ _).alloc (Nat.le_refl _) _;have k1 := Bk.new w 27 #[.slice (some ⟨b, off, none⟩) f.st.length v.c1, .slice v.a2 f.li.length v.c2, .slice v.a3 f.pa.length v.c3, .slice v.a4 f.va.length v.c4];have k2 : Bk ((w.alloc (.cells #[.slice (some ⟨b, off, none⟩) f.st.length v.c1, .slice v.a2 f.li.length v.c2, .slice v.a3 f.pa.length v.c3, .slice v.a4 f.va.length v.c4] 27)).alloc (.cells #[.int .u8 k, .int .i64 l, .int .i64 o, .int .i64 p, .int .i64 q, .int .i64 s, .int .i64 e, .int .i64 cb, .int .i64 cn, .int .i64 cl, .int .i64 cy, .int .i64 cw, .int .i64 cs] 48)) (w.heap.size + 1) 48 #[.int .u8 k, .int .i64 l, .int .i64 o, .int .i64 p, .int .i64 q, .int .i64 s, .int .i64 e, .int .i64 cb, .int .i64 cn, .int .i64 cl, .int .i64 cy, .int .i64 cw, .int .i64 cs] := by
    have := Bk.new (w.alloc (.cells #[.slice (some ⟨b, off, none⟩) f.st.length v.c1, .slice v.a2 f.li.length v.c2, .slice v.a3 f.pa.length v.c3, .slice v.a4 f.va.length v.c4] 27)) 48 #[.int .u8 k, .int .i64 l, .int .i64 o, .int .i64 p, .int .i64 q, .int .i64 s, .int .i64 e, .int .i64 cb, .int .i64 cn, .int .i64 cl, .int .i64 cy, .int .i64 cw, .int .i64 cs]
    rwa [show (w.alloc (.cells #[.slice (some ⟨b, off, none⟩) f.st.length v.c1, .slice v.a2 f.li.length v.c2, .slice v.a3 f.pa.length v.c3, .slice v.a4 f.va.length v.c4] 27)).heap.size = w.heap.size + 1 from by simp] at this
  have hb2 : Below w.heap.size w ((w.alloc (.cells #[.slice (some ⟨b, off, none⟩) f.st.length v.c1, .slice v.a2 f.li.length v.c2, .slice v.a3 f.pa.length v.c3, .slice v.a4 f.va.length v.c4] 27)).alloc (.cells #[.int .u8 k, .int .i64 l, .int .i64 o, .int .i64 p, .int .i64 q, .int .i64 s, .int .i64 e, .int .i64 cb, .int .i64 cn, .int .i64 cl, .int .i64 cy, .int .i64 cw, .int .i64 cs] 48)) := hb1.alloc (by simp) _;have k1' := k1.alloc (.cells #[.int .u8 k, .int .i64 l, .int .i64 o, .int .i64 p, .int .i64 q, .int .i64 s, .int .i64 e, .int .i64 cb, .int .i64 cn, .int .i64 cl, .int .i64 cy, .int .i64 cw, .int .i64 cs] 48);have HSB := jQ (fun (V : World) (h : Below ((w.alloc (.cells #[.slice (some ⟨b, off, none⟩) f.st.length v.c1, .slice v.a2 f.li.length v.c2, .slice v.a3 f.pa.length v.c3, .slice v.a4 f.va.length v.c4] 27)).alloc (.cells #[.int .u8 k, .int .i64 l, .int .i64 o, .int .i64 p, .int .i64 q, .int .i64 s, .int .i64 e, .int .i64 cb, .int .i64 cn, .int .i64 cl, .int .i64 cy, .int .i64 cw, .int .i64 cs] 48)).heap.size ((w.alloc (.cells #[.slice (some ⟨b, off, none⟩) f.st.length v.c1, .slice v.a2 f.li.length v.c2, .slice v.a3 f.pa.length v.c3, .slice v.a4 f.va.length v.c4] 27)).alloc (.cells #[.int .u8 k, .int .i64 l, .int .i64 o, .int .i64 p, .int .i64 q, .int .i64 s, .int .i64 e, .int .i64 cb, .int .i64 cn, .int .i64 cl, .int .i64 cy, .int .i64 cw, .int .i64 cs] 48)) V) => (show ((V.cell? ⟨w.heap.size, 0, none⟩ = some (.slice (some ⟨b, off, none⟩) f.st.length v.c1) /\ V.cell? ⟨w.heap.size, 3, none⟩ = some (.slice v.a4 f.va.length v.c4)) /\ (V.cell? ⟨b, off + p * 2 + 1, none⟩ = some (.int .i64 xa) /\ V.cell? ⟨b, off + q * 2 + 1, none⟩ = some (.int .i64 xb))) /\ (((V.cell? ⟨w.heap.size + 1, 3, none⟩ = some (.int .i64 p) /\ V.cell? ⟨w.heap.size + 1, 4, none⟩ = some (.int .i64 q)) /\ (V.cell? ⟨w.heap.size + 1, 7, none⟩ = some (.int .i64 cb) /\ V.cell? ⟨w.heap.size + 1, 8, none⟩ = some (.int .i64 cn))) /\ ((V.cell? ⟨w.heap.size + 1, 9, none⟩ = some (.int .i64 cl) /\ V.cell? ⟨w.heap.size + 1, 10, none⟩ = some (.int .i64 cy)) /\ (V.cell? ⟨w.heap.size + 1, 11, none⟩ = some (.int .i64 cw) /\ V.cell? ⟨w.heap.size + 1, 12, none⟩ = some (.int .i64 cs)))) from
    have hV := hb2.trans (h.mono hb2.size);have kk := k2.below h k2.lt
    ⟨⟨⟨((k1'.below h k1'.lt).cell 0).trans rfl, ((k1'.below h k1'.lt).cell 3).trans rfl⟩, (hV.cell (by simpa using hbb)).trans y1, (hV.cell (by simpa using hbb)).trans y2⟩,
      ⟨⟨(kk.cell 3).trans rfl, (kk.cell 4).trans rfl⟩, (kk.cell 7).trans rfl, (kk.cell 8).trans rfl⟩, ⟨(kk.cell 9).trans rfl, (kk.cell 10).trans rfl⟩, (kk.cell 11).trans rfl, (kk.cell 12).trans rfl⟩))
  have HI2 := jQ (fun (V : World) (h : Below ((w.alloc (.cells #[.slice (some ⟨b, off, none⟩) f.st.length v.c1, .slice v.a2 f.li.length v.c2, .slice v.a3 f.pa.length v.c3, .slice v.a4 f.va.length v.c4] 27)).alloc (.cells #[.int .u8 k, .int .i64 l, .int .i64 o, .int .i64 p, .int .i64 q, .int .i64 s, .int .i64 e, .int .i64 cb, .int .i64 cn, .int .i64 cl, .int .i64 cy, .int .i64 cw, .int .i64 cs] 48)).heap.size ((w.alloc (.cells #[.slice (some ⟨b, off, none⟩) f.st.length v.c1, .slice v.a2 f.li.length v.c2, .slice v.a3 f.pa.length v.c3, .slice v.a4 f.va.length v.c4] 27)).alloc (.cells #[.int .u8 k, .int .i64 l, .int .i64 o, .int .i64 p, .int .i64 q, .int .i64 s, .int .i64 e, .int .i64 cb, .int .i64 cn, .int .i64 cl, .int .i64 cy, .int .i64 cw, .int .i64 cs] 48)) V) => HI.o V (hS.step (hb2.trans (h.mono hb2.size))) ((hva.below (hb2.trans (h.mono hb2.size)) (Nat.le_refl _)).more (hb2.trans (h.mono hb2.size)).size));have HBW := jQ hb2;have hpi : (p : Int) < (f.st.length : Int) := by omega
  have hqi : (q : Int) < (f.st.length : Int) := by omega
  have hzz := k2.lt;clear hF hr hR hxa hxb hA hA' y1 y2 hbb hbb' hva k1 k1' k2 hb1 hb2 HI hrun hS;simp only [cval] at HI2;go_enter Tryz.func125, Tryz.ntmps125;go_wp2_with fail;obtain ⟨⟨⟨c0, c3⟩, y1, y2⟩, ⟨⟨d3, d4⟩, d7, d8⟩, ⟨d9, d10⟩, d11, d12⟩ := HSB.o _ (Below.refl _ _);go_region_held3 (fun V => ((V.cell? ⟨w.heap.size, 0, none⟩ = some (.slice (some ⟨b, off, none⟩) f.st.length v.c1) /\ V.cell? ⟨w.heap.size, 3, none⟩ = some (.slice v.a4 f.va.length v.c4)) /\ (V.cell? ⟨b, off + p * 2 + 1, none⟩ = some (.int .i64 xa) /\ V.cell? ⟨b, off + q * 2 + 1, none⟩ = some (.int .i64 xb))) /\ (((V.cell? ⟨w.heap.size + 1, 3, none⟩ = some (.int .i64 p) /\ V.cell? ⟨w.heap.size + 1, 4, none⟩ = some (.int .i64 q)) /\ (V.cell? ⟨w.heap.size + 1, 7, none⟩ = some (.int .i64 cb) /\ V.cell? ⟨w.heap.size + 1, 8, none⟩ = some (.int .i64 cn))) /\ ((V.cell? ⟨w.heap.size + 1, 9, none⟩ = some (.int .i64 cl) /\ V.cell? ⟨w.heap.size + 1, 10, none⟩ = some (.int .i64 cy)) /\ (V.cell? ⟨w.heap.size + 1, 11, none⟩ = some (.int .i64 cw) /\ V.cell? ⟨w.heap.size + 1, 12, none⟩ = some (.int .i64 cs)))))
    (go_keep)
    ((go_at_call 183; refine (HI2.o _ (Below.refl _ _).drew).mono ?_; rintro ee w3 ⟨rfl, hb3⟩; obtain ⟨⟨⟨x0, x3⟩, z1, z2⟩, ⟨⟨u3, u4⟩, u7, u8⟩, ⟨u9, u10⟩, u11, u12⟩ := HSB.o _ ((Below.refl _ _).drew.trans (hb3.mono (Nat.le_refl _))); have HB3 := jQ (HBW.o.trans ((Below.refl _ _).drew.trans (hb3.mono (Nat.le_refl _)) |>.mono HBW.o.size))))
  all_goals
    clear c0 c3 y1 y2 d3 d4 d7 d8 d9 d10 d11 d12 x0 x3 z1 z2 u3 u4 u7 u8 u9 u10 u11 u12;go_wp2_with fail;refine bodyPost_ret (y0X rfl _ _ _) rfl ?_;exact ⟨rfl, HB3.o⟩
theorem y08 {P : Program} {fn : Func} {p q : Tmp} {ty : TypeId} (h : fn.results = #[.cell p ty, .tmp q]) (tmps : Array Value) (w : World) (g : Nat) (t : TypeId) (cs : Array Value) (fr : Nat × Nat) (d : TypeDesc) (v : Value)
  (hp : tmps.getD p undef = .pointer (some ⟨g, 0, none⟩)) (hq : tmps.getD q undef = v) (hg : w.heap[g]? = some (.cells cs t fr))
  (hu : P.underlying ty = some d) (hd : (match d with | .struct _ | .array _ _ => true | _ => false) = true) (hi : (P.info? ty).map (·.size) = some cs.size) :
  (results fn tmps).run P w = .ok (.tuple #[.agg cs, v]) w := by
 have hp' : tmps[p]?.getD undef = .pointer (some ⟨g, 0, none⟩) := by simpa using hp
 have hq' : tmps[q]?.getD undef = v := by simpa using hq
 simp [results, h, hp', hq', asAddr, run_loadVar_row w g t ty cs fr d hg hu hd hi]
theorem y6c (co : Cs.Co) (w : World) :
  Calls Tryz.prog 68 #[cval co] w fun e w' => e = .returned (.tuple #[cval (Cs.revF co).1, .int .i64 (Cs.revF co).2]) /\ Below w.heap.size w w' := by
 have hcc := fun w => y1c co w;rw [y0P co] at hcc ⊢;have hB0 := ((Below.refl w.heap.size w).alloc (Nat.le_refl _) (.cells #[.int .i64 co.b, .int .i64 co.n, .int .i64 co.l, .int .i64 co.y, .int .i64 co.w, .int .i64 co.s] 46)).alloc (by simp) (.cells #[.int .i64 0, .int .i64 0, .int .i64 0, .int .i64 0, .int .i64 0, .int .i64 0] 46);have kC := (Bk.new w 46 #[.int .i64 co.b, .int .i64 co.n, .int .i64 co.l, .int .i64 co.y, .int .i64 co.w, .int .i64 co.s]).alloc (.cells #[.int .i64 0, .int .i64 0, .int .i64 0, .int .i64 0, .int .i64 0, .int .i64 0] 46);have kZ := Bk.new (w.alloc (.cells #[.int .i64 co.b, .int .i64 co.n, .int .i64 co.l, .int .i64 co.y, .int .i64 co.w, .int .i64 co.s] 46)) 46 #[.int .i64 0, .int .i64 0, .int .i64 0, .int .i64 0, .int .i64 0, .int .i64 0];rw [World.size_alloc] at kZ;have hfin : ∀ W, Bk W (w.heap.size + 1) 46 #[.int .i64 0, .int .i64 0, .int .i64 0, .int .i64 0, .int .i64 0, .int .i64 0] -> Below w.heap.size w W -> ∀ b n l y a s : Int,
   Bk ((((((W.setCell ⟨w.heap.size + 1, 0, none⟩ (.int .i64 b)).setCell ⟨w.heap.size + 1, 1, none⟩ (.int .i64 n)).setCell ⟨w.heap.size + 1, 2, none⟩ (.int .i64 l)).setCell ⟨w.heap.size + 1, 3, none⟩ (.int .i64 y)).setCell ⟨w.heap.size + 1, 4, none⟩ (.int .i64 a)).setCell ⟨w.heap.size + 1, 5, none⟩ (.int .i64 s)) (w.heap.size + 1) 46 #[.int .i64 b, .int .i64 n, .int .i64 l, .int .i64 y, .int .i64 a, .int .i64 s] /\
   Below w.heap.size w ((((((W.setCell ⟨w.heap.size + 1, 0, none⟩ (.int .i64 b)).setCell ⟨w.heap.size + 1, 1, none⟩ (.int .i64 n)).setCell ⟨w.heap.size + 1, 2, none⟩ (.int .i64 l)).setCell ⟨w.heap.size + 1, 3, none⟩ (.int .i64 y)).setCell ⟨w.heap.size + 1, 4, none⟩ (.int .i64 a)).setCell ⟨w.heap.size + 1, 5, none⟩ (.int .i64 s)) := fun W h hB b n l y a s =>
  ⟨(((((h.set 0 _).set 1 _).set 2 _).set 3 _).set 4 _).set 5 _, ((((((hB.setCell (p := ⟨w.heap.size + 1, 0, none⟩) (by simp) _).setCell (p := ⟨w.heap.size + 1, 1, none⟩) (by simp) _).setCell (p := ⟨w.heap.size + 1, 2, none⟩) (by simp) _).setCell (p := ⟨w.heap.size + 1, 3, none⟩) (by simp) _).setCell (p := ⟨w.heap.size + 1, 4, none⟩) (by simp) _).setCell (p := ⟨w.heap.size + 1, 5, none⟩) (by simp) _)⟩
 have HFIN := jQ hfin;have HB0 := jQ hB0;have KC := jQ kC;have KZ := jQ kZ;clear hfin hB0 kC kZ;rcases hok : Cs.courseOk co with _ | _
 ·have hr : Cs.revF co = (⟨0, 0, 0, 0, 0, 0⟩, 1) := by rw [Cs.revF, if_neg (by rw [hok]; simp)]
  rw [hr];rw [Cs.y23 hok] at hcc;have HCC := jQ hcc;clear hcc hr hok;go_enter Tryz.func68, Tryz.ntmps68;go_wp2_with fail;refine (HCC.o _).mono ?_;rintro e w1 ⟨rfl, hb1⟩;have kz := KZ.o.below hb1 (by simp);have hB1 := HB0.o.trans (hb1.mono HB0.o.size);have HR := jQ (HFIN.o _ kz hB1 0 0 0 0 0 0);have z0 := (kz.cell 0).trans rfl;have z1 := (kz.cell 1).trans rfl;have z2 := (kz.cell 2).trans rfl;have z3 := (kz.cell 3).trans rfl;have z4 := (kz.cell 4).trans rfl;have z5 := (kz.cell 5).trans rfl;have f0 := kz.frozen 0;have f1 := kz.frozen 1;have f2 := kz.frozen 2;have f3 := kz.frozen 3;have f4 := kz.frozen 4;have f5 := kz.frozen 5;have lz := kz.lt;clear kz hb1 hB1;go_wp2_with fail;exact bodyPost_ret (y08 rfl _ _ (w.heap.size + 1) 46 #[.int .i64 0, .int .i64 0, .int .i64 0, .int .i64 0, .int .i64 0, .int .i64 0] (0, 0) _ (.int .i64 1) rfl rfl HR.o.1 Tryz.underlying46 rfl (by kernel_rfl)) rfl ⟨rfl, HR.o.2⟩
 have hr : Cs.revF co = (Cs.turn co, 0) := by rw [Cs.revF, if_pos hok]
 rw [hr];rw [Cs.y2U hok] at hcc;obtain ⟨⟨b0, b1⟩, _⟩ := (Cs.y0Q co).1 hok;have hnm := fun w => y0s (co.b + 180) w;have htv : cval (Cs.turn co) = .agg #[.int .i64 (Cs.norm (co.b + 180)), .int .i64 co.n, .int .i64 co.l, .int .i64 co.y, .int .i64 co.w, .int .i64 co.s] := rfl;rw [htv];obtain ⟨nb, hnb⟩ := zE (Cs.norm (co.b + 180));rw [hnb] at hnm ⊢;have HCC := jQ hcc;have HNM := jQ hnm;clear hcc hr hok hnm htv hnb;go_enter Tryz.func68, Tryz.ntmps68;go_wp2_with fail;refine (HCC.o _).mono ?_;rintro e w1 ⟨rfl, hb1⟩;have kz := KZ.o.below hb1 (by simp);have kc := KC.o.below hb1 (by simp; omega);have hB1 := HB0.o.trans (hb1.mono HB0.o.size);have HR := jQ (HFIN.o (w1.setCell ⟨w.heap.size, 0, none⟩ (.int .i64 nb)) (kz.far (by simp) _) (hB1.setCell (p := ⟨w.heap.size, 0, none⟩) (Nat.le_refl _) _) nb co.n co.l co.y co.w co.s);have z0 := (kz.cell 0).trans rfl;have z1 := (kz.cell 1).trans rfl;have z2 := (kz.cell 2).trans rfl;have z3 := (kz.cell 3).trans rfl;have z4 := (kz.cell 4).trans rfl;have z5 := (kz.cell 5).trans rfl;have f0 := kz.frozen 0;have f1 := kz.frozen 1;have f2 := kz.frozen 2;have f3 := kz.frozen 3;have f4 := kz.frozen 4;have f5 := kz.frozen 5;have lz := kz.lt;have c0 := (kc.cell 0).trans rfl;have c1 := (kc.cell 1).trans rfl;have c2 := (kc.cell 2).trans rfl;have c3 := (kc.cell 3).trans rfl;have c4 := (kc.cell 4).trans rfl;have c5 := (kc.cell 5).trans rfl;have g0 := kc.frozen 0;have lc := kc.lt;clear kz kc hb1 hB1;go_wp2_with (go_at_call 119; refine (HNM.o _).mono ?_; rintro e w' ⟨rfl, rfl⟩);exact bodyPost_ret (y08 rfl _ _ (w.heap.size + 1) 46 _ (0, 0) _ (.int .i64 0) rfl rfl HR.o.1 Tryz.underlying46 rfl (by kernel_rfl)) rfl ⟨rfl, HR.o.2⟩
end

section
open Go.RowKit
namespace Cs
theorem yCN (x : Int) : norm (x + 90) - 90 = if 269 < norm x then norm x - 360 else norm x := by
 unfold norm;split <;> omega
end Cs
theorem y25 (co : Cs.Co) (east : Int) (w : World) (hco : Cs.courseOk co = true) (he : -60 <= east /\ east <= 60) :
  Calls Tryz.prog 242 #[cval co, .int .i64 east] w fun e w' => e = .returned (.tuple #[.int .i64 (Cs.norm (co.b + east + 90) - 90 - co.n), .int .i64 (Cs.norm (co.b + east + 90) - 90 + co.n)]) /\ Below w.heap.size w w' := by
 obtain ⟨⟨b0, b1⟩, ⟨n0, n1⟩, _⟩ := (Cs.y0Q co).1 hco;have hB0 := (Below.refl w.heap.size w).alloc (Nat.le_refl _) (.cells #[.int .i64 co.b, .int .i64 co.n, .int .i64 co.l, .int .i64 co.y, .int .i64 co.w, .int .i64 co.s] 46);have HB0 := jQ hB0;rw [Cs.yCN, y0P];have hnm := fun w => y1F (co.b + east) w;obtain ⟨m0, m1⟩ := Cs.y0M (co.b + east);obtain ⟨m, hm⟩ := zE (Cs.norm (co.b + east));rw [hm] at hnm m0 m1 ⊢;have HNM := jQ hnm;clear hnm hm hB0 hco;by_cases g : 269 < m
 ·rw [if_pos g];go_enter Tryz.func242, Tryz.ntmps242;go_wp2_with (go_at_call 121; refine (HNM.o _).mono ?_; rintro e w' ⟨rfl, rfl⟩);go_quiet (fail)
  go_wp2
  go_ret2;exact ⟨rfl, y05 HB0.o _⟩
 rw [if_neg g];go_enter Tryz.func242, Tryz.ntmps242;go_wp2_with (go_at_call 121; refine (HNM.o _).mono ?_; rintro e w' ⟨rfl, rfl⟩);go_quiet (fail)
 go_wp2
 go_ret2;exact ⟨rfl, y05 HB0.o _⟩
namespace Cs
theorem y32 {vs : List (Int × Int)} {co : Co} (h : varsE vs ≠ 0) : checkE vs [co] = varsE vs := y1K h
theorem y2T {vs : List (Int × Int)} {co : Co} (h : varsE vs = 0) (hc : courseOk co = false) : checkE vs [co] = 1 := y0w (cs := [co]) h (k := 0) (by simp) hc
theorem y33 {vs : List (Int × Int)} {co : Co} (h : varsE vs = 0) (hc : courseOk co = true) (hy : (dec vs co.y).2 = false) : checkE vs [co] = 20 :=
 y34 (cs := [co]) h (fun j hj => by (obtain rfl : j = 0 := by simpa using hj); exact hc) (k := 0) (by simp) hy
theorem y4j {vs : List (Int × Int)} {co : Co} (h : varsE vs = 0) (hc : courseOk co = true) (hy : (dec vs co.y).2 = true) : checkE vs [co] = 0 :=
 y5b (cs := [co]) h (fun j hj => by (obtain rfl : j = 0 := by simpa using hj); exact hc) (fun j hj => by (obtain rfl : j = 0 := by simpa using hj); exact hy)
end Cs
theorem y7K (A : Option Addr) (c : Nat) (vs : List (Int × Int)) (co : Cs.Co) (w : World) (hR : Rd w w.heap.size 2 A vs.length (vcells vs)) (hl : vs.length <= 1000000) :
  Calls Tryz.prog 212 #[.slice A vs.length c, cval co] w fun e w' => e = .returned (.tuple #[.int .i64 (Cs.sectorF vs co).1, .int .i64 (Cs.sectorF vs co).2.1, .int .i64 (Cs.sectorF vs co).2.2]) /\ Below w.heap.size w w' := by
 have hcv := fun w h => y0h A c vs w h hl;have hcc := fun w => y1Y co w;have hde := fun w h => y1Z A c vs co.y w h hl;have hB0 := (Below.refl w.heap.size w).alloc (Nat.le_refl _) (.cells #[.int .i64 co.b, .int .i64 co.n, .int .i64 co.l, .int .i64 co.y, .int .i64 co.w, .int .i64 co.s] 46);have HRD := jQ ((hR.below hB0 (Nat.le_refl _)).more hB0.size);have HRR := jQ hR;have HB0 := jQ hB0;have KC := jQ (Bk.new w 46 #[.int .i64 co.b, .int .i64 co.n, .int .i64 co.l, .int .i64 co.y, .int .i64 co.w, .int .i64 co.s]);rw [y0P] at hcc ⊢;clear hB0 hR;by_cases hs : Cs.varsE vs = 0
 ·rw [hs] at hcv;rcases hok : Cs.courseOk co with _ | _
  ·have hr : Cs.sectorF vs co = (0, 0, 1) := by rw [Cs.sectorF, Cs.y2T hs hok, if_pos (by simp)]
   rw [hr];rw [Cs.y23 hok] at hcc;have HCV := jQ hcv;have HCC := jQ hcc;clear hcv hcc hde hs hok hr;go_enter Tryz.func212, Tryz.ntmps212;go_wp2_with fail;refine (HCV.o _ HRD.o).mono ?_;rintro e w1 ⟨rfl, hb1⟩;have k1 := KC.o.below hb1 (by simp);have HB1 := jQ (HB0.o.trans (hb1.mono HB0.o.size));have p0 := (k1.cell 0).trans rfl;have p1 := (k1.cell 1).trans rfl;have p2 := (k1.cell 2).trans rfl;have p3 := (k1.cell 3).trans rfl;have p4 := (k1.cell 4).trans rfl;have p5 := (k1.cell 5).trans rfl;have lp := k1.lt;clear hb1 k1;go_wp2_with fail;refine (HCC.o _).mono ?_;rintro e w2 ⟨rfl, hb2⟩;have HB2 := jQ (HB1.o.trans (hb2.mono HB1.o.size));clear hb2;go_wp2_with fail
   go_ret3
   exact ⟨rfl, HB2.o⟩
  rw [Cs.y2U hok] at hcc;obtain ⟨d0, d1⟩ := Cs.y29 vs co.y;rcases hy : (Cs.dec vs co.y).2 with _ | _
  ·have hr : Cs.sectorF vs co = (0, 0, 20) := by rw [Cs.sectorF, Cs.y33 hs hok hy, if_pos (by simp)]
   rw [hr];obtain ⟨x, hx⟩ : ∃ x, Cs.dec vs co.y = (x, false) := ⟨_, Prod.ext rfl hy⟩;rw [hx] at hde;have HCV := jQ hcv;have HCC := jQ hcc;have HDE := jQ hde;clear hcv hcc hde hs hok hr hx hy d0 d1;go_enter Tryz.func212, Tryz.ntmps212;go_wp2_with fail;refine (HCV.o _ HRD.o).mono ?_;rintro e w1 ⟨rfl, hb1⟩;have k1 := KC.o.below hb1 (by simp);have HK1 := jQ k1;have HB1 := jQ (HB0.o.trans (hb1.mono HB0.o.size));have p0 := (k1.cell 0).trans rfl;have p1 := (k1.cell 1).trans rfl;have p2 := (k1.cell 2).trans rfl;have p3 := (k1.cell 3).trans rfl;have p4 := (k1.cell 4).trans rfl;have p5 := (k1.cell 5).trans rfl;have lp := k1.lt;clear hb1 k1;go_wp2_with fail;refine (HCC.o _).mono ?_;rintro e w2 ⟨rfl, hb2⟩;have hB2 := HB1.o.trans (hb2.mono HB1.o.size);have k2 := HK1.o.below hb2 HK1.o.lt;have HK2 := jQ k2;have HR2 := jQ ((HRR.o.below hB2 (Nat.le_refl _)).more hB2.size);have HB2 := jQ hB2;clear hb2 hB2 p0 p1 p2 p3 p4 p5 lp;have q0 := (k2.cell 0).trans rfl;have q1 := (k2.cell 1).trans rfl;have q2 := (k2.cell 2).trans rfl;have q3 := (k2.cell 3).trans rfl;have q4 := (k2.cell 4).trans rfl;have q5 := (k2.cell 5).trans rfl;have lq := k2.lt;clear k2;go_wp2_with fail;refine (HDE.o _ HR2.o).mono ?_;rintro e w3 ⟨rfl, hb3⟩;have k3 := HK2.o.below hb3 HK2.o.lt;have HB3 := jQ (HB2.o.trans (hb3.mono HB2.o.size));clear hb3 q0 q1 q2 q3 q4 q5 lq;have s0 := (k3.cell 0).trans rfl;have s1 := (k3.cell 1).trans rfl;have s2 := (k3.cell 2).trans rfl;have s3 := (k3.cell 3).trans rfl;have s4 := (k3.cell 4).trans rfl;have s5 := (k3.cell 5).trans rfl;have ls := k3.lt;clear k3;go_wp2_with fail
   go_ret3
   exact ⟨rfl, HB3.o⟩
  have hr : Cs.sectorF vs co = ((Cs.aimOf vs co).low, (Cs.aimOf vs co).high, 0) := by rw [Cs.sectorF, Cs.y4j hs hok hy, if_neg (by simp)]
  rw [hr];have ha : Cs.aimOf vs co = ⟨Cs.norm (co.b + (Cs.dec vs co.y).1 + 90) - 90 - co.n, Cs.norm (co.b + (Cs.dec vs co.y).1 + 90) - 90 + co.n, Cs.nearF co, Cs.farF co⟩ := rfl;rw [ha];dsimp only;obtain ⟨x, hx⟩ : ∃ x, Cs.dec vs co.y = (x, true) := ⟨_, Prod.ext rfl hy⟩;rw [hx] at hde d0 d1 ⊢;have hse := fun w => y25 co x w hok ⟨d0, d1⟩;rw [y0P] at hse;dsimp only;have HSE := jQ hse;have HCV := jQ hcv;have HCC := jQ hcc;have HDE := jQ hde;clear hcv hcc hde hs hok hr hx hy ha hse;go_enter Tryz.func212, Tryz.ntmps212;go_wp2_with fail;refine (HCV.o _ HRD.o).mono ?_;rintro e w1 ⟨rfl, hb1⟩;have k1 := KC.o.below hb1 (by simp);have HK1 := jQ k1;have HB1 := jQ (HB0.o.trans (hb1.mono HB0.o.size));have p0 := (k1.cell 0).trans rfl;have p1 := (k1.cell 1).trans rfl;have p2 := (k1.cell 2).trans rfl;have p3 := (k1.cell 3).trans rfl;have p4 := (k1.cell 4).trans rfl;have p5 := (k1.cell 5).trans rfl;have lp := k1.lt;clear hb1 k1;go_wp2_with fail;refine (HCC.o _).mono ?_;rintro e w2 ⟨rfl, hb2⟩;have hB2 := HB1.o.trans (hb2.mono HB1.o.size);have k2 := HK1.o.below hb2 HK1.o.lt;have HK2 := jQ k2;have HR2 := jQ ((HRR.o.below hB2 (Nat.le_refl _)).more hB2.size);have HB2 := jQ hB2;clear hb2 hB2 p0 p1 p2 p3 p4 p5 lp;have q0 := (k2.cell 0).trans rfl;have q1 := (k2.cell 1).trans rfl;have q2 := (k2.cell 2).trans rfl;have q3 := (k2.cell 3).trans rfl;have q4 := (k2.cell 4).trans rfl;have q5 := (k2.cell 5).trans rfl;have lq := k2.lt;clear k2;go_wp2_with fail;refine (HDE.o _ HR2.o).mono ?_;rintro e w3 ⟨rfl, hb3⟩;have k3 := HK2.o.below hb3 HK2.o.lt;have HB3 := jQ (HB2.o.trans (hb3.mono HB2.o.size));clear hb3 q0 q1 q2 q3 q4 q5 lq;have s0 := (k3.cell 0).trans rfl;have s1 := (k3.cell 1).trans rfl;have s2 := (k3.cell 2).trans rfl;have s3 := (k3.cell 3).trans rfl;have s4 := (k3.cell 4).trans rfl;have s5 := (k3.cell 5).trans rfl;have ls := k3.lt;clear k3;go_wp2_with fail;refine (HSE.o _).mono ?_;rintro e w4 ⟨rfl, hb4⟩;have HB4 := jQ (HB3.o.trans (hb4.mono HB3.o.size));clear hb4;go_wp2_with fail
  go_ret3
  exact ⟨rfl, HB4.o⟩
 have hr : Cs.sectorF vs co = (0, 0, Cs.varsE vs) := by rw [Cs.sectorF, Cs.y32 hs, if_pos hs]
 rw [hr];dsimp only;have hne : (Cs.varsE vs != 0) = true := by simp [hs]
 have hne2 : (Cs.varsE vs == 0) = false := by simp [hs]
 obtain ⟨s, hss⟩ := zE (Cs.varsE vs);rw [hss] at hcv hne hne2 ⊢;have HCV := jQ hcv;clear hcv hs hss hr hcc hde;go_enter Tryz.func212, Tryz.ntmps212;go_wp2_with fail;refine (HCV.o _ HRD.o).mono ?_;rintro e w1 ⟨rfl, hb1⟩;have HB1 := jQ (HB0.o.trans (hb1.mono HB0.o.size));clear hb1;go_wp2_with fail
 go_ret3
 exact ⟨rfl, HB1.o⟩
end
end Go.Proofs.YtccikcpcfdjobaaGreatDoor
