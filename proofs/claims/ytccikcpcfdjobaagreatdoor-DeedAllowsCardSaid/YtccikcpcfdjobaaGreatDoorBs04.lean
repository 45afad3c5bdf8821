/-
  What the claim needs: contracts.
-/
import Derived.Test.YtccikcpcfdjobaaGreatDoorBs03
set_option linter.unusedVariables false
set_option linter.unusedSimpArgs false
set_option maxHeartbeats 8000000
set_option maxRecDepth 100000
namespace Go.Proofs.YtccikcpcfdjobaaGreatDoor
section
open Go.RowKit
namespace Cs
theorem y2U {c : Co} (h : courseOk c = true) : courseE c = 0 := by unfold courseE; rw [if_pos h]
theorem y23 {c : Co} (h : courseOk c = false) : courseE c = 1 := by unfold courseE; rw [if_neg (by rw [h]; simp)]
theorem y1K {vs : List (Int × Int)} {cs : List Co} (h : varsE vs ≠ 0) : checkE vs cs = varsE vs := by rw [checkE, if_pos h]
theorem y0w {vs : List (Int × Int)} {cs : List Co} (h : varsE vs = 0) {k : Nat} (hk : k < cs.length) (hc : courseOk cs[k] = false) : checkE vs cs = 1 := by
 have : cs.all courseOk = false := List.all_eq_false.2 ⟨_, List.getElem_mem hk, by rw [hc]; simp⟩;rw [checkE, if_neg (by rw [h]; simp), this];simp
theorem y34 {vs : List (Int × Int)} {cs : List Co} (h : varsE vs = 0) (ha : ∀ j (hj : j < cs.length), courseOk cs[j] = true) {k : Nat} (hk : k < cs.length) (hc : (dec vs cs[k].y).2 = false) : checkE vs cs = 20 := by
 have h1 : cs.all courseOk = true := by
  rw [List.all_eq_true];intro c hm;obtain ⟨j, hj, rfl⟩ := List.mem_iff_getElem.1 hm;exact ha j hj
 have h2 : cs.all (fun c => (dec vs c.y).2) = false := List.all_eq_false.2 ⟨_, List.getElem_mem hk, by rw [hc]; simp⟩;rw [checkE, if_neg (by rw [h]; simp), if_pos h1, if_neg (by rw [h2]; simp)]
theorem y5b {vs : List (Int × Int)} {cs : List Co} (h : varsE vs = 0) (ha : ∀ j (hj : j < cs.length), courseOk cs[j] = true) (hb : ∀ j (hj : j < cs.length), (dec vs cs[j].y).2 = true) : checkE vs cs = 0 := by
 have h1 : cs.all courseOk = true := by
  rw [List.all_eq_true];intro c hm;obtain ⟨j, hj, rfl⟩ := List.mem_iff_getElem.1 hm;exact ha j hj
 have h2 : cs.all (fun c => (dec vs c.y).2) = true := by
  rw [List.all_eq_true];intro c hm;obtain ⟨j, hj, rfl⟩ := List.mem_iff_getElem.1 hm;exact hb j hj
 rw [checkE, if_neg (by rw [h]; simp), if_pos h1, if_pos h2]
end Cs
theorem y9Q (A A2 : Option Addr) (c c2 : Nat) (vs : List (Int × Int)) (cs : List Cs.Co) (w : World) (hR : Rd w w.heap.size 2 A vs.length (vcells vs)) (hl : vs.length <= 1000000)
  (hC : Rd w w.heap.size 6 A2 cs.length (ccells cs)) (hlc : cs.length <= 1000000) :
  Calls Tryz.prog 268 #[.slice A vs.length c, .slice A2 cs.length c2] w fun e w' => e = .returned (.int .i64 (Cs.checkE vs cs)) /\ Below w.heap.size w w' := by
 have hcv := y0k A c vs w hR hl;by_cases hs : Cs.varsE vs = 0
 ·rw [hs] at hcv;obtain ⟨r, hr⟩ := zE (Cs.checkE vs cs);rw [hr];have h1 : ∀ k (hk : k < cs.length), Cs.courseOk cs[k] = false -> 1 = r := fun k hk hc => by rw [<- hr, Cs.y0w hs hk hc]
  have h2 : (∀ j (hj : j < cs.length), Cs.courseOk cs[j] = true) -> ∀ k (hk : k < cs.length), (Cs.dec vs cs[k].y).2 = false -> 20 = r := fun ha k hk hc => by rw [<- hr, Cs.y34 hs ha hk hc]
  have h3 : (∀ j (hj : j < cs.length), Cs.courseOk cs[j] = true) -> (∀ j (hj : j < cs.length), (Cs.dec vs cs[j].y).2 = true) -> 0 = r := fun ha hb => by rw [<- hr, Cs.y5b hs ha hb]
  have H1 := jQ h1;have H2 := jQ h2;have H3 := jQ h3;have HCV := jQ hcv;have HCC := jQ fun co w => y1c co w;have HDE := jQ fun y w h => y1d A c vs y w h hl;have HRR := jQ hR;clear h1 h2 h3 hcv hr hs hR;go_enter Tryz.func268, Tryz.ntmps268;go_wp2_with fail;refine HCV.o.mono ?_;rintro e w1 ⟨rfl, hb1⟩;go_wp2_with fail;go_loopw [20] (fun I wr => ∃ k : Nat, k <= cs.length /\ I = .int .i64 k /\ (∀ j (hj : j < cs.length), j < k -> Cs.courseOk cs[j] = true) /\ Below w.heap.size w wr) (fun I _ => cs.length - (intOf I).toNat)
  case atStart => exact ⟨0, Nat.zero_le _, rfl, fun j hj h => absurd h (by omega), hb1⟩
  clear hb1 HCV;obtain ⟨k, hk, rfl, hF, hB⟩ := hrel;by_cases hlt : k < cs.length
  ·obtain ⟨bv, ov, rfl, hbv, e0, e1, e2, e3, e4, e5⟩ := (hC.below hB (Nat.le_refl _)).course hlt;obtain ⟨co, hv⟩ := zE (cs[k]);rw [hv] at e0 e1 e2 e3 e4 e5;have hcc := HCC.o co;have htv : cval co = .agg #[.int .i64 co.b, .int .i64 co.n, .int .i64 co.l, .int .i64 co.y, .int .i64 co.w, .int .i64 co.s] := rfl;rw [htv] at hcc;have hB2 := hB.alloc hB.size (.cells #[.int .i64 co.b, .int .i64 co.n, .int .i64 co.l, .int .i64 co.y, .int .i64 co.w, .int .i64 co.s] 46);have h1k := H1.o k hlt;rw [hv] at h1k;rcases hok : Cs.courseOk co with _ | _
   ·have h1 := h1k hok;rw [Cs.y23 hok] at hcc;have HB2 := jQ hB2;have HCK := jQ hcc;have HX := jQ h1;clear hv hB hB2 hcc htv hF h1k h1 hok;go_wp2_with fail;refine (HCK.o _).mono ?_;rintro e w2 ⟨rfl, hb2⟩;go_wp2_with fail;go_ret;have h := HX.o;subst h;exact ⟨rfl, HB2.o.trans (hb2.mono HB2.o.size)⟩
   rw [Cs.y2U hok] at hcc;have HB2 := jQ hB2;have HCK := jQ hcc;have hF2 : ∀ j (hj : j < cs.length), j < k + 1 -> Cs.courseOk cs[j] = true := fun j hj h => by
    by_cases hjk : j = k
    ·subst hjk; rw [hv]; exact hok
    exact hF j hj (by omega)
   have HF2 := jQ hF2;clear hv hB hB2 hcc htv hF h1k hok hF2;go_wp2_with fail;refine (HCK.o _).mono ?_;rintro e w2 ⟨rfl, hb2⟩;go_wp2_with fail;go_roundw
   case rel => exact ⟨k + 1, by omega, by go_num, HF2.o, HB2.o.trans (hb2.mono HB2.o.size)⟩
   case measure => simp [intOf]; omega
  obtain rfl : k = cs.length := by omega
  have HF := jQ (show ∀ j (hj : j < cs.length), Cs.courseOk cs[j] = true from fun j hj => hF j hj hj);have HBB := jQ hB;clear hF hB hlt hk;go_wp2_with fail;go_loopw [32] (fun I wr => ∃ k : Nat, k <= cs.length /\ I = .int .i64 k /\ (∀ j (hj : j < cs.length), j < k -> (Cs.dec vs cs[j].y).2 = true) /\ Below w.heap.size w wr) (fun I _ => cs.length - (intOf I).toNat)
  case atStart => exact ⟨0, Nat.zero_le _, rfl, fun j hj h => absurd h (by omega), HBB.o⟩
  obtain ⟨k, hk, rfl, hF2, hB⟩ := hrel;by_cases hlt : k < cs.length
  ·obtain ⟨bv, ov, rfl, hbv, e0, e1, e2, e3, e4, e5⟩ := (hC.below hB (Nat.le_refl _)).course hlt;have hd : ∀ q : Bool, (Cs.dec vs cs[k].y).2 = q -> ∃ x, Cs.dec vs cs[k].y = (x, q) := fun q h => ⟨_, Prod.ext rfl h⟩;have h2k := H2.o HF.o k hlt;have hn : ((Cs.dec vs cs[k].y).2 = true) -> ∀ j (hj : j < cs.length), j < k + 1 -> (Cs.dec vs cs[j].y).2 = true := fun h j hj hlt => by
    by_cases hjk : j = k
    ·subst hjk; exact h
    exact hF2 j hj (by omega)
   have hde := HDE.o cs[k].y;obtain ⟨co, hv⟩ := zE (cs[k]);rw [hv] at e0 e1 e2 e3 e4 e5 hd h2k hn hde;have hB2 := hB.alloc hB.size (.cells #[.int .i64 co.b, .int .i64 co.n, .int .i64 co.l, .int .i64 co.y, .int .i64 co.w, .int .i64 co.s] 46);have hR2 := (HRR.o.below hB2 (Nat.le_refl _)).more hB2.size;rcases hok : (Cs.dec vs co.y).2 with _ | _
   ·obtain ⟨x, hx⟩ := hd _ hok;rw [hx] at hde;have HDK := jQ (hde _ hR2);have HX := jQ (h2k hok);have HB2 := jQ hB2;clear hv hB hB2 hde hd h2k hn hok hx hF2 hR2;go_wp2_with fail;refine HDK.o.mono ?_;rintro e w2 ⟨rfl, hb2⟩;go_wp2_with fail;go_ret;have h := HX.o;subst h;exact ⟨rfl, HB2.o.trans (hb2.mono HB2.o.size)⟩
   obtain ⟨x, hx⟩ := hd _ hok;rw [hx] at hde;have HDK := jQ (hde _ hR2);have HN := jQ (hn hok);have HB2 := jQ hB2;clear hv hB hB2 hde hd h2k hn hok hx hF2 hR2;go_wp2_with fail;refine HDK.o.mono ?_;rintro e w2 ⟨rfl, hb2⟩;go_wp2_with fail;go_roundw
   case rel => exact ⟨k + 1, by omega, by go_num, HN.o, HB2.o.trans (hb2.mono HB2.o.size)⟩
   case measure => simp [intOf]; omega
  obtain rfl : k = cs.length := by omega
  have HX := jQ (H3.o HF.o fun j hj => hF2 j hj hj);have HB3 := jQ hB;clear hF2 hB hlt hk;go_wp2_with fail;go_ret;have h := HX.o;subst h;exact ⟨rfl, HB3.o⟩
 rw [Cs.y1K hs];have hne : (Cs.varsE vs != 0) = true := by simp [hs]
 obtain ⟨s, hss⟩ := zE (Cs.varsE vs);rw [hss] at hcv hne ⊢;have HCV := jQ hcv;clear hcv hs hss hR hC;go_enter Tryz.func268, Tryz.ntmps268;go_wp2_with fail;refine HCV.o.mono ?_;rintro e w1 ⟨rfl, hb1⟩;go_wp2_with fail;go_ret;exact ⟨rfl, hb1⟩
end

section
open Go.RowKit
theorem y4k (A A2 : Option Addr) (c c2 : Nat) (vs : List (Int × Int)) (cs : List Cs.Co) (dx : Int) (w : World) (hR : Rd w w.heap.size 2 A vs.length (vcells vs)) (hl : vs.length <= 1000000)
  (hC : Rd w w.heap.size 6 A2 cs.length (ccells cs)) (hlc : cs.length <= 1000000) :
  Calls Tryz.prog 250 #[.slice A vs.length c, .int .i64 dx, .slice A2 cs.length c2] w fun e w' => e = .returned (.int .i64 (Cs.eastE vs cs dx)) /\ Below w.heap.size w w' := by
 have hck := y9Q A A2 c c2 vs cs w hR hl hC hlc;clear hR hC;by_cases hs : Cs.checkE vs cs = 0
 ·have he : Cs.eastE vs cs dx = if dx = 0 ∨ dx < -100000 ∨ 100000 < dx then 1 else 0 := by rw [Cs.eastE, if_neg (by rw [hs]; simp)]
  rw [he];rw [hs] at hck;have HCK := jQ hck;clear hck hs he;by_cases h0 : dx = 0
  ·rw [if_pos (Or.inl h0)];go_enter Tryz.func250, Tryz.ntmps250;go_wp2_with fail;refine HCK.o.mono ?_;rintro e w1 ⟨rfl, hb1⟩;go_wp2_with fail;go_ret;exact ⟨rfl, hb1⟩
  have hd0 : (dx == 0) = false := by simp [h0]
  by_cases h1 : -100000 <= dx /\ dx <= 100000
  ·rw [if_neg (by omega)];have d1 : decide (-100000 <= dx /\ dx <= 100000) = true := decide_eq_true h1;clear h1;go_enter Tryz.func250, Tryz.ntmps250;go_wp2_with fail;refine HCK.o.mono ?_;rintro e w1 ⟨rfl, hb1⟩;go_wp2_with (go_at_call 127; refine (y0H _ _ _ _).mono ?_; rw [d1]; rintro e w' ⟨rfl, rfl⟩);go_ret;exact ⟨rfl, hb1⟩
  rw [if_pos (by omega)];have d1 : decide (-100000 <= dx /\ dx <= 100000) = false := decide_eq_false h1;clear h1;go_enter Tryz.func250, Tryz.ntmps250;go_wp2_with fail;refine HCK.o.mono ?_;rintro e w1 ⟨rfl, hb1⟩;go_wp2_with (go_at_call 127; refine (y0H _ _ _ _).mono ?_; rw [d1]; rintro e w' ⟨rfl, rfl⟩);go_ret;exact ⟨rfl, hb1⟩
 have he : Cs.eastE vs cs dx = Cs.checkE vs cs := by rw [Cs.eastE, if_pos hs]
 rw [he];have hne : (Cs.checkE vs cs != 0) = true := by simp [hs]
 obtain ⟨s, hss⟩ := zE (Cs.checkE vs cs);rw [hss] at hck hne ⊢;have HCK := jQ hck;clear hck hs hss he;go_enter Tryz.func250, Tryz.ntmps250;go_wp2_with fail;refine HCK.o.mono ?_;rintro e w1 ⟨rfl, hb1⟩;go_wp2_with fail;go_ret;exact ⟨rfl, hb1⟩
theorem y8G (co : Cs.Co) : ccells [co] = ccell co := by simp [ccells]
theorem yCv (w : World) (t : TypeId) (co : Cs.Co) : Rd (w.alloc (.cells #[.int .i64 co.b, .int .i64 co.n, .int .i64 co.l, .int .i64 co.y, .int .i64 co.w, .int .i64 co.s] t)) (w.heap.size + 1) 6 (some ⟨w.heap.size, 0, none⟩) [co].length (ccells [co]) := by
 rw [y8G];refine ⟨rfl, fun _ => ⟨w.heap.size, 0, rfl, by omega, fun j hj => ?_⟩⟩;have := (Bk.new w t #[.int .i64 co.b, .int .i64 co.n, .int .i64 co.l, .int .i64 co.y, .int .i64 co.w, .int .i64 co.s]).cell (0 + j);rw [this];simp only [List.length_singleton] at hj;rcases (by omega : j = 0 ∨ j = 1 ∨ j = 2 ∨ j = 3 ∨ j = 4 ∨ j = 5) with rfl | rfl | rfl | rfl | rfl | rfl <;> rfl
theorem Cs.y2S {vs : List (Int × Int)} {co : Cs.Co} (h : Cs.checkE vs [co] = 0) : Cs.courseOk co = true := by
 rcases hc : Cs.courseOk co with _ | _
 ·by_cases hv : Cs.varsE vs = 0
  ·rw [Cs.y0w (cs := [co]) hv (k := 0) (by simp) hc] at h;cases h
  rw [Cs.y1K hv] at h;exact absurd h hv
 rfl
theorem Cs.y1t {vs : List (Int × Int)} {cs : List Cs.Co} {dx : Int} (h : Cs.eastE vs cs dx = 0) : Cs.checkE vs cs = 0 /\ dx ≠ 0 /\ -100000 <= dx /\ dx <= 100000 := by
 unfold Cs.eastE at h;split at h
 ·rename_i hn; exact absurd h hn
 rename_i hn;split at h
 ·cases h
 omega
theorem Cs.y97 {vs : List (Int × Int)} {co : Cs.Co} {dx dy : Int} (h : Cs.stepE vs co dx dy = 0) : Cs.courseOk co = true /\ dx ≠ 0 /\ -100000 <= dx /\ dx <= 100000 /\ -100000 <= dy /\ dy <= 100000 := by
 unfold Cs.stepE at h;split at h
 ·rename_i hn; exact absurd h hn
 rename_i hn;obtain ⟨h1, h2, h3, h4⟩ := Cs.y1t (Decidable.not_not.1 hn);split at h
 ·cases h
 exact ⟨Cs.y2S h1, h2, h3, h4, by omega, by omega⟩
theorem y0P (co : Cs.Co) : cval co = .agg #[.int .i64 co.b, .int .i64 co.n, .int .i64 co.l, .int .i64 co.y, .int .i64 co.w, .int .i64 co.s] := rfl
end

section
open Go.RowKit
namespace Cs
theorem y74 {a : Aim} {dx : Int} (h : a.high <= 0 ∨ 180 <= a.low ∨ room a dx < 0) : intA a dx = (0, 0, false) := by rw [intA, if_pos h]
theorem y2r {a : Aim} {dx : Int} (h : ¬ (a.high <= 0 ∨ 180 <= a.low ∨ room a dx < 0)) : intA a dx = (lo3 a dx, hi3 a dx, decide (lo3 a dx <= hi3 a dx)) := by rw [intA, if_neg h]
end Cs
structure IntP (w wx : World) (cs : Array Value) : Prop where
 below : Below w.heap.size w wx
 bk : Bk wx w.heap.size 275 cs
 sn : Sn wx
theorem IntP.step {w wx wy : World} {cs : Array Value} (h : IntP w wx cs) (hb : Below wx.heap.size wx wy) : IntP w wy cs := ⟨h.below.trans (hb.mono h.below.size), h.bk.below hb h.bk.lt, h.sn.step hb⟩
theorem IntP.drewN {w wx : World} {cs : Array Value} (h : IntP w wx cs) (n : Nat) : IntP w (wx.drewN n) cs := h.step (y05 (Below.refl _ _) n)
theorem ret3 {a b c d : Int} {p q : Bool} (h : a = b) (h2 : c = d) (h3 : p = q) : Ending.returned (.tuple #[.int .i64 a, .int .i64 c, .bool p]) = .returned (.tuple #[.int .i64 b, .int .i64 d, .bool q]) := by rw [h, h2, h3]
theorem vint {a b : Int} (h : a = b) : Value.int .i64 a = .int .i64 b := by rw [h]
theorem y5r (al ah an af : Int) (dx : Int) (w : World) (hs : Sn w) (ok : Cs.AimOk ⟨al, ah, an, af⟩) (hx : -100000 <= dx /\ dx <= 100000) (r : Int) (hr : Cs.room ⟨al, ah, an, af⟩ dx = r) (n1 : 0 < ah) (n2 : al < 180) (n3 : 0 <= r) (r1 : r <= 11449000000) (hq : (af * af).tdiv 100000000 = r + dx * dx)
  (s0 : 0 <= af * af) (s1 : af * af <= 1144900000000000000) (t0 : 0 <= an * an) (t1 : an * an <= 1144900000000000000) (x0 : 0 <= dx * dx) (x1 : dx * dx <= 10000000000) :
  Calls Tryz.prog 270 #[.agg #[.int .i64 al, .int .i64 ah, .int .i64 an, .int .i64 af], .int .i64 dx] w fun e w' => e = .returned (.tuple #[.int .i64 (Cs.lo3 ⟨al, ah, an, af⟩ dx), .int .i64 (Cs.hi3 ⟨al, ah, an, af⟩ dx), .bool (decide (Cs.lo3 ⟨al, ah, an, af⟩ dx <= Cs.hi3 ⟨al, ah, an, af⟩ dx))]) /\ Below w.heap.size w w' := by
 have hB0 := (Below.refl w.heap.size w).alloc (Nat.le_refl _) (.cells #[.int .i64 al, .int .i64 ah, .int .i64 an, .int .i64 af] 275);have HP0 := jQ (show IntP w (w.alloc (.cells #[.int .i64 al, .int .i64 ah, .int .i64 an, .int .i64 af] 275)) #[.int .i64 al, .int .i64 ah, .int .i64 an, .int .i64 af] from ⟨hB0, Bk.new w _ _, hs.step hB0⟩);obtain ⟨rt, hrt⟩ := zE (Cs.root r);have hro := fun w => y7x r (by omega) (by omega) w;rw [hrt] at hro;have HRO := jQ hro;obtain ⟨q0, q1⟩ := Cs.y1A (n := r) (by omega);rw [hrt] at q0 q1;have hh1 : Cs.hi1 ⟨al, ah, an, af⟩ dx = min rt 100000 := by rw [Cs.hi1, hr, hrt]
 have hh2 : Cs.hi2 ⟨al, ah, an, af⟩ dx = if 0 < al then min (min rt 100000) (Cs.flo (dx * Cs.cos al) (Cs.sin al)) else min rt 100000 := by rw [Cs.hi2, hh1]
 have hl2 : Cs.lo2 ⟨al, ah, an, af⟩ dx = if ah < 180 then max (-(min rt 100000)) (Cs.cei (dx * Cs.cos ah) (Cs.sin ah)) else -(min rt 100000) := by rw [Cs.lo2, hh1]
 have hh3 : Cs.hi3 ⟨al, ah, an, af⟩ dx = if 90 <= al then min (Cs.hi2 ⟨al, ah, an, af⟩ dx) (-(Cs.least ⟨al, ah, an, af⟩ dx)) else Cs.hi2 ⟨al, ah, an, af⟩ dx := rfl
 have hl3 : Cs.lo3 ⟨al, ah, an, af⟩ dx = if ah <= 90 then max (Cs.lo2 ⟨al, ah, an, af⟩ dx) (Cs.least ⟨al, ah, an, af⟩ dx) else Cs.lo2 ⟨al, ah, an, af⟩ dx := rfl
 have hle : Cs.least ⟨al, ah, an, af⟩ dx = Cs.rootUp (Cs.cei (an * an) 100000000 - dx * dx) := rfl;have hce : 0 <= Cs.cei (an * an) 100000000 /\ Cs.cei (an * an) 100000000 <= 11449000000 := by unfold Cs.cei; omega
 obtain ⟨ce, hcc⟩ := zE (Cs.cei (an * an) 100000000);have hci := fun w => y7d (an * an) 100000000 (by omega) (by omega) (by omega) w;rw [hcc] at hci hce hle;obtain ⟨le, hll⟩ := zE (Cs.rootUp (ce - dx * dx));have hru := fun w => y94 (ce - dx * dx) (by omega) (by omega) w;have hlr : -1 <= le /\ le <= 3037000500 := by
  have := Cs.y1A (n := ce - dx * dx) (by omega);rw [<- hll, Cs.rootUp];split <;> omega
 rw [hll] at hru hle;have HCI := jQ hci;have HRU := jQ hru;have HNO := jQ fun w => y55 ⟨al, ah, an, af⟩ w;have HSO := jQ fun w => y5Q ⟨al, ah, an, af⟩ w;rw [show aval ⟨al, ah, an, af⟩ = .agg #[.int .i64 al, .int .i64 ah, .int .i64 an, .int .i64 af] from rfl] at HNO HSO;dsimp only at HNO HSO;rw [hle] at hh3 hl3;obtain ⟨h2, hv2⟩ := zE (Cs.hi2 ⟨al, ah, an, af⟩ dx);obtain ⟨l2, hw2⟩ := zE (Cs.lo2 ⟨al, ah, an, af⟩ dx);rw [hv2] at hh2 hh3;rw [hw2] at hl2 hl3;rw [hh3, hl3];obtain ⟨l3, hx3⟩ := zE ((if ah <= 90 then max l2 le else l2));obtain ⟨h3, hy3⟩ := zE ((if 90 <= al then min h2 (-le) else h2));rw [hx3, hy3];have HL3 := jQ hx3;have HH3 := jQ hy3;clear hx3 hy3;have HH2 := jQ hh2;have HL2 := jQ hl2;have HHX := jQ hx;obtain ⟨c0, c1⟩ := hce;obtain ⟨e0, e1⟩ := hlr;have hcd : IntKind.i64.wrap (ce - dx * dx) = ce - dx * dx := IntWalk.i64_in _ (by omega);have hnl : IntKind.i64.wrap (-le) = -le := IntWalk.i64_in _ (by omega);clear hB0 hs hr hro hrt hh1 hh2 hl2 hh3 hl3 hle hcc hci hll hru hv2 hw2 hx ok;go_enter Tryz.func270, Tryz.ntmps270
 go_upto_if 38 with (go_at_call 288; refine (HRO.o _).mono ?_; rintro e w' ⟨rfl, rfl⟩)
 go_cut [4, 5] (fun s4 s5 wx => s4 = .int .i64 (-(min rt 100000)) /\ s5 = .int .i64 h2 /\ IntP w wx #[.int .i64 al, .int .i64 ah, .int .i64 an, .int .i64 af])
 case first =>
  have hp0 := HP0.o;have hx := HHX.o;by_cases g : 0 < al
  ·have h2 := HH2.o;rw [if_pos g] at h2;have hsp := Cs.y0n g n2;obtain ⟨p0, p1⟩ := y22 hx (Cs.y0v al);have HSI := jQ fun w (h : Sn w) => (y7Q al w h).mono fun _ _ ⟨h1, h2⟩ => And.intro h1 h2.symm;have HCO := jQ fun w (h : Sn w) => (y9Z al w h).mono fun _ _ ⟨h1, h2⟩ => And.intro h1 h2.symm;have hfl := fun w => (y5m (dx * Cs.cos al) (Cs.sin al) (by omega) (by omega) hsp w).mono fun _ _ ⟨h1, h2⟩ => And.intro h1 h2.symm;obtain ⟨si, hsi⟩ := zE (Cs.sin al);obtain ⟨co, hco⟩ := zE (Cs.cos al);simp only [hsi, hco] at *;obtain ⟨fl, hff⟩ := zE (Cs.flo (dx * co) si);simp only [hff] at h2 hfl;have w2 : IntKind.i64.wrap (dx * co) = dx * co := IntWalk.i64_in _ (by omega);have HFL := jQ hfl;have H2 := jQ h2;have HS := jQ hp0.sn;have HP := jQ hp0;clear hfl h2 hp0 hsi hco hff hx
   go_wp2
   all_goals go_quiet ((first
    | (go_at_call 291; exact Calls.quiet_of_same (HSI.o _ (by first | exact HS.o | exact HS.o.drew | exact HS.o.drewN _)))
    | (go_at_call 290; exact Calls.quiet_of_same (HCO.o _ (by first | exact HS.o | exact HS.o.drew | exact HS.o.drewN _)))
    | (go_at_call 289; exact Calls.quiet_of_same (HFL.o _))))
   all_goals go_wp2
   all_goals
    go_meet;have hh := H2.o;have hp := HP.o;clear hq
    first
     | exact ⟨vint (by omega), vint (by omega), hp.drewN _⟩
     | exact ⟨vint (by omega), vint (by omega), hp⟩
  have h2 := HH2.o;rw [if_neg g] at h2;have HP := jQ hp0;have H2 := jQ h2;clear hp0 hx h2;go_wp2_with fail
  all_goals
   go_meet;have hh := H2.o;have hp := HP.o;clear hq;exact ⟨vint (by omega), vint (by omega), hp⟩
 obtain ⟨rfl, rfl, hP⟩ := hcut;clear HH2 HRO HP0 q0 q1;obtain ⟨W1, hW1⟩ : ∃ W, W = wc := ⟨_, rfl⟩;subst hW1;have a0 := (hP.bk.cell 0).trans rfl;have a1 := (hP.bk.cell 1).trans rfl;have a2 := (hP.bk.cell 2).trans rfl;have a3 := (hP.bk.cell 3).trans rfl;have lk := hP.bk.lt;have HP1 := jQ hP;clear hP
 go_upto_if 52 with fail
 go_cut [4, 5] (fun s4 s5 wx => s4 = .int .i64 l2 /\ s5 = .int .i64 h2 /\ IntP w wx #[.int .i64 al, .int .i64 ah, .int .i64 an, .int .i64 af])
 case first =>
  have hp0 := HP1.o;have hx := HHX.o;by_cases g : ah < 180
  ·have h2 := HL2.o;rw [if_pos g] at h2;have hsp := Cs.y0n n1 g;obtain ⟨p0, p1⟩ := y22 hx (Cs.y0v ah);have HSI := jQ fun w (h : Sn w) => (y7Q ah w h).mono fun _ _ ⟨h1, h2⟩ => And.intro h1 h2.symm;have HCO := jQ fun w (h : Sn w) => (y9Z ah w h).mono fun _ _ ⟨h1, h2⟩ => And.intro h1 h2.symm;have hfl := fun w => (y7d (dx * Cs.cos ah) (Cs.sin ah) (by omega) (by omega) hsp w).mono fun _ _ ⟨h1, h2⟩ => And.intro h1 h2.symm;obtain ⟨si, hsi⟩ := zE (Cs.sin ah);obtain ⟨co, hco⟩ := zE (Cs.cos ah);simp only [hsi, hco] at *;obtain ⟨fl, hff⟩ := zE (Cs.cei (dx * co) si);simp only [hff] at h2 hfl;obtain ⟨mn, hmn⟩ := zE (-(min rt 100000));have w2 : IntKind.i64.wrap (dx * co) = dx * co := IntWalk.i64_in _ (by omega);have HFL := jQ hfl;have H2 := jQ h2;have HS := jQ hp0.sn;have HP := jQ hp0;clear hfl h2 hp0 hsi hco hff hx
   go_wp2
   all_goals go_quiet ((first
    | (go_at_call 291; exact Calls.quiet_of_same (HSI.o _ (by first | exact HS.o | exact HS.o.drew | exact HS.o.drewN _)))
    | (go_at_call 290; exact Calls.quiet_of_same (HCO.o _ (by first | exact HS.o | exact HS.o.drew | exact HS.o.drewN _)))
    | (go_at_call 292; exact Calls.quiet_of_same (HFL.o _))))
   all_goals go_wp2
   all_goals
    go_meet;have hh := H2.o;have hp := HP.o;clear hq
    first
     | exact ⟨vint (by omega), vint (by omega), hp.drewN _⟩
     | exact ⟨vint (by omega), vint (by omega), hp⟩
  have h2 := HL2.o;rw [if_neg g] at h2;have HP := jQ hp0;have H2 := jQ h2;clear hp0 hx h2;go_wp2_with fail
  all_goals
   go_meet;have hh := H2.o;have hp := HP.o;clear hq;exact ⟨vint (by omega), vint (by omega), hp⟩
 obtain ⟨rfl, rfl, hP⟩ := hcut;clear HL2 HP1 a0 a1 a2 a3 lk HHX;obtain ⟨W2, hW2⟩ : ∃ W, W = wc := ⟨_, rfl⟩;subst hW2;have a0 := (hP.bk.cell 0).trans rfl;have a1 := (hP.bk.cell 1).trans rfl;have a2 := (hP.bk.cell 2).trans rfl;have a3 := (hP.bk.cell 3).trans rfl;have lk := hP.bk.lt;have HP2 := jQ hP;clear hP
 go_upto_if 76 with (first
  | (go_at_call 292; refine (HCI.o _).mono ?_; rintro e w' ⟨rfl, rfl⟩)
  | (go_at_call 293; refine (HRU.o _).mono ?_; rintro e w' ⟨rfl, rfl⟩)
  | (go_at_call 294; refine (HNO.o _).mono ?_; rintro e w3 ⟨rfl, hb3⟩))
 have HP3 := jQ (HP2.o.step hb3);clear hb3 a0 a1 a2 a3 lk
 go_cut [4] (fun s4 wx => s4 = .int .i64 l3 /\ IntP w wx #[.int .i64 al, .int .i64 ah, .int .i64 an, .int .i64 af])
 case first =>
  by_cases g : ah <= 90
  all_goals
   have hh := HL3.o
   (first | rw [if_pos g] at hh | rw [if_neg g] at hh)
   have HX := jQ hh;clear hh;go_wp2_with fail
  all_goals
   go_meet;have hh := HX.o;have hp := HP3.o;clear hq;exact ⟨vint (by omega), hp⟩
 obtain ⟨rfl, hP⟩ := hcut;clear HL3 HP3 HP2;obtain ⟨W4, hW4⟩ : ∃ W, W = wc := ⟨_, rfl⟩;subst hW4;have a0 := (hP.bk.cell 0).trans rfl;have a1 := (hP.bk.cell 1).trans rfl;have a2 := (hP.bk.cell 2).trans rfl;have a3 := (hP.bk.cell 3).trans rfl;have lk := hP.bk.lt;have HP4 := jQ hP;clear hP
 go_upto_if 81 with (go_at_call 295; refine (HSO.o _).mono ?_; rintro e w5 ⟨rfl, hb5⟩)
 have HP5 := jQ (HP4.o.step hb5);clear hb5 a0 a1 a2 a3 lk
 go_cut [5] (fun s5 wx => s5 = .int .i64 h3 /\ IntP w wx #[.int .i64 al, .int .i64 ah, .int .i64 an, .int .i64 af])
 case first =>
  by_cases g : 90 <= al
  all_goals
   have hh := HH3.o
   (first | rw [if_pos g] at hh | rw [if_neg g] at hh)
   have HX := jQ hh;clear hh;go_wp2_with fail
  all_goals
   go_meet;have hh := HX.o;have hp := HP5.o;clear hq;exact ⟨vint (by omega), hp⟩
 obtain ⟨rfl, hP⟩ := hcut;clear HH3 HP4 HP5;obtain ⟨W6, hW6⟩ : ∃ W, W = wc := ⟨_, rfl⟩;subst hW6;go_wp2_with fail
 all_goals
  go_ret3
  exact ⟨ret3 rfl rfl (by first | rfl | simp [*]), hP.below⟩
theorem y2g (a : Cs.Aim) (dx : Int) (w : World) (hs : Sn w) (ok : Cs.AimOk a) (hx : -100000 <= dx /\ dx <= 100000) :
  Calls Tryz.prog 270 #[aval a, .int .i64 dx] w fun e w' => e = .returned (.tuple #[.int .i64 (Cs.intA a dx).1, .int .i64 (Cs.intA a dx).2.1, .bool (Cs.intA a dx).2.2]) /\ Below w.heap.size w w' := by
 have o1 := ok.near0;have o2 := ok.nf;have o3 := ok.far1;obtain ⟨s0, s1⟩ := Cs.y0T (x := a.far) (m := 1070000000) (by omega) (by omega);obtain ⟨t0, t1⟩ := Cs.y0T (x := a.near) (m := 1070000000) (by omega) (by omega);obtain ⟨x0, x1⟩ := Cs.y0T (x := dx) (m := 100000) hx.1 hx.2;have hrm : Cs.room a dx = a.far * a.far / 100000000 - dx * dx := rfl;have hr0 : -10000000000 <= Cs.room a dx /\ Cs.room a dx <= 11449000000 := by rw [hrm]; omega
 have htd : (a.far * a.far).tdiv 100000000 = a.far * a.far / 100000000 := Int.tdiv_eq_ediv_of_nonneg s0;obtain ⟨r, hr⟩ := zE (Cs.room a dx);have hq : (a.far * a.far).tdiv 100000000 = r + dx * dx := by rw [htd]; omega
 rw [hr] at hr0;obtain ⟨r0, r1⟩ := hr0;obtain ⟨al, ah, an, af⟩ := a;have hav : aval ⟨al, ah, an, af⟩ = .agg #[.int .i64 al, .int .i64 ah, .int .i64 an, .int .i64 af] := rfl;rw [hav];by_cases hno : ah <= 0 ∨ 180 <= al ∨ Cs.room ⟨al, ah, an, af⟩ dx < 0
 ·rw [Cs.y74 hno];have hB0 := (Below.refl w.heap.size w).alloc (Nat.le_refl _) (.cells #[.int .i64 al, .int .i64 ah, .int .i64 an, .int .i64 af] 275);have HB0 := jQ hB0;rw [hr] at hno;have hcase : ah <= 0 ∨ (0 < ah /\ 180 <= al) ∨ (0 < ah /\ al < 180 /\ r < 0) := by omega
  clear hno hrm htd ok hs hr hav hB0;dsimp only at *;rcases hcase with g1 | ⟨g1, g2⟩ | ⟨g1, g2, g3⟩
  all_goals
   go_enter Tryz.func270, Tryz.ntmps270;go_wp2_with fail
   go_ret3
   exact ⟨rfl, HB0.o⟩
 rw [Cs.y2r hno];rw [hr] at hno;exact y5r al ah an af dx w hs ok hx r hr (by omega) (by omega) (by omega) r1 hq s0 s1 t0 t1 x0 x1
end
end Go.Proofs.YtccikcpcfdjobaaGreatDoor
