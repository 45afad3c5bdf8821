/-
  What the claim needs: contracts.
-/
import Derived.Test.YtccikcpcfdjobaaGreatDoorBs17
set_option linter.unusedVariables false
set_option linter.unusedSimpArgs false
set_option maxHeartbeats 8000000
set_option maxRecDepth 100000
namespace Go.Proofs.YtccikcpcfdjobaaGreatDoor
section
open Go.RowKit
theorem yC3 (v : Fv) (f : Dd.Fd) (x : Dd.Pa) (A : Option Addr) (c : Nat) (y : List Int) (s o : Int) (gY gF gS gO : Nat) (W : World)
    (kF : Bk W gF 27 #[.slice v.a1 f.st.length v.c1, .slice v.a2 f.li.length v.c2, .slice v.a3 f.pa.length v.c3, .slice v.a4 f.va.length v.c4])
    (kY : Bk W gY 28 #[.slice A y.length c]) (kS : Bk W gS 3 #[.int .i64 s]) (kO : Bk W gO 3 #[.int .i64 o])
    (hY : Rd W W.heap.size 1 A y.length (icells y)) (hl1 : f.st.length <= 12) (hl2 : f.li.length <= 10) (hs : 0 <= s /\ s < f.st.length) (hx : 0 <= x.south /\ x.south + 1 < f.li.length) (hyl : y.length = Dd.ptsN f) :
    Calls Tryz.prog 56 #[.agg #[.string ⟨x.name.toArray⟩, .int .i64 x.south, .int .i64 x.west, .int .i64 x.east], .pointer (some ⟨gY, 0, none⟩), .pointer (some ⟨gF, 0, none⟩), .pointer (some ⟨gS, 0, none⟩), .pointer (some ⟨gO, 0, none⟩)] W
      fun e w' => e = .returned (.bool (Dd.hasP f s o y x)) /\ Below W.heap.size W w' := by
  have hd : Dd.hasP f s o y x = (decide (x.west <= s) && decide (s < x.east) && decide (Dd.at_ y (Dd.pt f x.south s) <= o) && decide (o < Dd.at_ y (Dd.pt f (x.south + 1) s))) := rfl;have hN : y.length = 1 + f.li.length * f.st.length := hyl;have hrange : ∀ l : Int, 0 <= l -> l < f.li.length -> 0 <= Dd.pt f l s /\ Dd.pt f l s < y.length := by
    intro l h0 h1;have h2 : l * (f.st.length : Int) + f.st.length <= (f.li.length : Int) * f.st.length := by
      have := Int.mul_le_mul_of_nonneg_right (show l + 1 <= (f.li.length : Int) by omega) (show 0 <= (f.st.length : Int) by omega)
      rwa [Int.add_mul, Int.one_mul] at this
    have h3 : 0 <= l * (f.st.length : Int) := Int.mul_nonneg h0 (by omega);have h4 : ((f.li.length * f.st.length : Nat) : Int) = (f.li.length : Int) * f.st.length := by push_cast; rfl
    unfold Dd.pt;omega
  obtain ⟨p1, q1⟩ := hrange x.south hx.1 (by omega);obtain ⟨p2, q2⟩ := hrange (x.south + 1) (by omega) (by omega);have hpt := fun (l : Int) (h0 : 0 <= l) (h1 : l <= 1000) V => y0f v f l s (by omega) h0 (by omega) hs.1 (by omega) V;obtain ⟨n1, hn1⟩ : ∃ n1 : Nat, Dd.pt f x.south s = n1 := ⟨_, (Int.toNat_of_nonneg p1).symm⟩;obtain ⟨n2, hn2⟩ : ∃ n2 : Nat, Dd.pt f (x.south + 1) s = n2 := ⟨_, (Int.toNat_of_nonneg p2).symm⟩;have HP := jQ (fun (l : Int) (h : l = x.south ∨ l = x.south + 1) V => (show Calls Tryz.prog 45 #[fval v f, .int .i64 l, .int .i64 s] V (fun e w' => ∃ n : Nat, e = .returned (.int .i64 n) /\ (l = x.south -> n = n1) /\ (l = x.south + 1 -> n = n2) /\ Below V.heap.size V w') from
    (hpt l (by omega) (by omega) V).mono (by
      rintro e w' ⟨rfl, hb⟩;rcases h with rfl | rfl
      · exact ⟨n1, by rw [hn1], fun _ => rfl, fun h => absurd h (by omega), hb⟩
      exact ⟨n2, by rw [hn2], fun h => absurd h (by omega), fun _ => rfl, hb⟩)))
  simp only [y01] at HP;rw [hn1] at p1 q1 hd;rw [hn2] at p2 q2 hd;have m1 : n1 < y.length := by omega
  have m2 : n2 < y.length := by omega
  have e1 : Dd.at_ y (n1 : Int) = y[n1] := by unfold Dd.at_; rw [Int.toNat_natCast, List.getElem?_eq_getElem m1]; rfl
  have e2 : Dd.at_ y (n2 : Int) = y[n2] := by unfold Dd.at_; rw [Int.toNat_natCast, List.getElem?_eq_getElem m2]; rfl
  rw [e1, e2] at hd;obtain ⟨b, off, hA, hb, y1⟩ := hY.num m1;obtain ⟨b', off', hA', hb', y2⟩ := hY.num m2;rw [hA] at hA';obtain ⟨rfl, rfl⟩ : b = b' /\ off = off' := by simpa using hA'
  obtain ⟨v1, hv1⟩ := zE (y[n1]);obtain ⟨v2, hv2⟩ := zE (y[n2]);rw [hv1] at y1 hd;rw [hv2] at y2 hd;rw [hA] at kY;obtain ⟨R, hR⟩ := zE (Dd.hasP f s o y x);rw [hR] at hd ⊢;have HD := jQ hd;obtain ⟨n, so, we, ea⟩ := x;dsimp only at hx HP HD ⊢;have hwl : IntKind.i64.wrap (so + 1) = so + 1 := IntWalk.i64_in _ (by omega);have hbW : Below W.heap.size W (W.alloc (.cells #[.string ⟨n.toArray⟩, .int .i64 so, .int .i64 we, .int .i64 ea] 68)) := (Below.refl _ _).alloc (Nat.le_refl _) _;have kP := Bk.new W 68 #[.string ⟨n.toArray⟩, .int .i64 so, .int .i64 we, .int .i64 ea];have KF := jQ kF;have KY := jQ kY;have KS := jQ kS;have KO := jQ kO;have HSB := jQ (fun (V : World) (h : Below (W.alloc (.cells #[.string ⟨n.toArray⟩, .int .i64 so, .int .i64 we, .int .i64 ea] 68)).heap.size (W.alloc (.cells #[.string ⟨n.toArray⟩, .int .i64 so, .int .i64 we, .int .i64 ea] 68)) V) => (show ((V.cell? ⟨gF, 0, none⟩ = some (.slice v.a1 f.st.length v.c1) /\ V.cell? ⟨gF, 1, none⟩ = some (.slice v.a2 f.li.length v.c2)) /\ (V.cell? ⟨gF, 2, none⟩ = some (.slice v.a3 f.pa.length v.c3) /\ V.cell? ⟨gF, 3, none⟩ = some (.slice v.a4 f.va.length v.c4))) /\ ((V.cell? ⟨gY, 0, none⟩ = some (.slice (some ⟨b, off, none⟩) y.length c) /\ V.cell? ⟨gS, 0, none⟩ = some (.int .i64 s)) /\ (V.cell? ⟨W.heap.size, 1, none⟩ = some (.int .i64 so) /\ (V.cell? ⟨b, off + n1, none⟩ = some (.int .i64 v1) /\ V.cell? ⟨b, off + n2, none⟩ = some (.int .i64 v2)))) from
    have hV := hbW.trans (h.mono hbW.size)
    ⟨⟨⟨((KF.o.below hV KF.o.lt).cell 0).trans rfl, ((KF.o.below hV KF.o.lt).cell 1).trans rfl⟩, ((KF.o.below hV KF.o.lt).cell 2).trans rfl, ((KF.o.below hV KF.o.lt).cell 3).trans rfl⟩,
      ⟨((KY.o.below hV KY.o.lt).cell 0).trans rfl, ((KS.o.below hV KS.o.lt).cell 0).trans rfl⟩, ((kP.below h kP.lt).cell 1).trans rfl, (hV.cell (by simpa using hb)).trans y1, (hV.cell (by simpa using hb)).trans y2⟩))
  have HSC := jQ (fun (V : World) (h : Below (W.alloc (.cells #[.string ⟨n.toArray⟩, .int .i64 so, .int .i64 we, .int .i64 ea] 68)).heap.size (W.alloc (.cells #[.string ⟨n.toArray⟩, .int .i64 so, .int .i64 we, .int .i64 ea] 68)) V) => (show ((V.cell? ⟨W.heap.size, 2, none⟩ = some (.int .i64 we) /\ V.cell? ⟨W.heap.size, 3, none⟩ = some (.int .i64 ea)) /\ (V.cell? ⟨gS, 0, none⟩ = some (.int .i64 s) /\ V.cell? ⟨gO, 0, none⟩ = some (.int .i64 o))) /\ Below W.heap.size W V from
    have hV := hbW.trans (h.mono hbW.size)
    ⟨⟨⟨((kP.below h kP.lt).cell 2).trans rfl, ((kP.below h kP.lt).cell 3).trans rfl⟩, ((KS.o.below hV KS.o.lt).cell 0).trans rfl, ((KO.o.below hV KO.o.lt).cell 0).trans rfl⟩, hV⟩))
  have HSX := jQ (kP.lt);clear hd hR hv1 hv2 hA hA' hb hb' y1 y2 e1 e2 hn1 hn2 hpt hrange hN hyl hY kF kY kS kO kP hbW;go_enter Tryz.func56, Tryz.ntmps56;go_wp2_with fail;obtain ⟨⟨⟨c0, c1⟩, c2, c3⟩, ⟨d0, d1⟩, d2, d3, d4⟩ := HSB.o _ (Below.refl _ _)
  go_cut [7, 8] (fun s7 s8 wx => s7 = .int .i64 v1 /\ s8 = .int .i64 v2 /\ Below (W.alloc (.cells #[.string ⟨n.toArray⟩, .int .i64 so, .int .i64 we, .int .i64 ea] 68)).heap.size (W.alloc (.cells #[.string ⟨n.toArray⟩, .int .i64 so, .int .i64 we, .int .i64 ea] 68)) wx)
  case first =>
    have hbD : Below (W.alloc (.cells #[.string ⟨n.toArray⟩, .int .i64 so, .int .i64 we, .int .i64 ea] 68)).heap.size (W.alloc (.cells #[.string ⟨n.toArray⟩, .int .i64 so, .int .i64 we, .int .i64 ea] 68)) (W.alloc (.cells #[.string ⟨n.toArray⟩, .int .i64 so, .int .i64 we, .int .i64 ea] 68)).drew := (Below.refl _ _).drew;go_region_held3 (fun V => ((V.cell? ⟨gF, 0, none⟩ = some (.slice v.a1 f.st.length v.c1) /\ V.cell? ⟨gF, 1, none⟩ = some (.slice v.a2 f.li.length v.c2)) /\ (V.cell? ⟨gF, 2, none⟩ = some (.slice v.a3 f.pa.length v.c3) /\ V.cell? ⟨gF, 3, none⟩ = some (.slice v.a4 f.va.length v.c4))) /\ ((V.cell? ⟨gY, 0, none⟩ = some (.slice (some ⟨b, off, none⟩) y.length c) /\ V.cell? ⟨gS, 0, none⟩ = some (.int .i64 s)) /\ (V.cell? ⟨W.heap.size, 1, none⟩ = some (.int .i64 so) /\ (V.cell? ⟨b, off + n1, none⟩ = some (.int .i64 v1) /\ V.cell? ⟨b, off + n2, none⟩ = some (.int .i64 v2)))))
      (go_keep)
      (first
        | (go_at_call 45; refine (HP.o _ (by omega) _).mono ?_; first
            | (rintro e w3 ⟨m, rfl, _, h2, hb3⟩; obtain rfl : m = n2 := h2 rfl; have hbF := hbE.trans (hb3.mono hbE.size); obtain ⟨⟨⟨x0, x1⟩, x2, x3⟩, ⟨t0, t1⟩, t2, t3, t4⟩ := HSB.o _ hbF)
            | (rintro e w2 ⟨m, rfl, h1, _, hb2⟩; obtain rfl : m = n1 := h1 rfl; have hbE := hbD.trans (hb2.mono hbD.size); obtain ⟨⟨⟨z0, z1⟩, z2, z3⟩, ⟨u0, u1⟩, u2, u3, u4⟩ := HSB.o _ hbE)))
    all_goals
      go_wp2_with fail;go_meet;exact ⟨rfl, rfl, hbF⟩
  obtain ⟨rfl, rfl, hb⟩ := hcut;obtain ⟨⟨⟨z2, z3⟩, z4, z5⟩, hB⟩ := HSC.o _ hb;have HB := jQ hB;clear hB hb c0 c1 c2 c3 d0 d1 d2 d3 d4;have hD := HD.o;rcases g1 : decide (we <= s) with _ | _
  · rw [g1] at hD
    simp only [Bool.false_and] at hD;have HR := jQ hD;clear hD;go_wp2_with fail;go_ret;exact ⟨by rw [HR.o]; rfl, HB.o⟩
  rcases g2 : decide (s < ea) with _ | _
  · rw [g1, g2] at hD
    simp only [Bool.false_and, Bool.and_false] at hD;have HR := jQ hD;clear hD;go_wp2_with fail;go_ret;exact ⟨by rw [HR.o]; rfl, HB.o⟩
  rcases g3 : decide (v1 <= o) with _ | _
  · rw [g1, g2, g3] at hD
    simp only [Bool.false_and, Bool.and_false] at hD;have HR := jQ hD;clear hD;go_wp2_with fail;go_ret;exact ⟨by rw [HR.o]; rfl, HB.o⟩
  rcases g4 : decide (o < v2) with _ | _
  · rw [g1, g2, g3, g4] at hD
    simp only [Bool.false_and, Bool.and_false] at hD;have HR := jQ hD;clear hD;go_wp2_with fail;go_ret;exact ⟨by rw [HR.o]; rfl, HB.o⟩
  rw [g1, g2, g3, g4] at hD;simp only [Bool.and_self] at hD;have HR := jQ hD;clear hD;go_wp2_with fail;go_ret;exact ⟨by rw [HR.o]; rfl, HB.o⟩
end

section
open Go.RowKit
theorem Dd.y7C {f : Dd.Fd} (h : Dd.fieldE f = 0) (x : Dd.Pa) (hx : x ∈ f.pa) : 0 <= x.south /\ x.south + 1 < f.li.length := by
 obtain ⟨h1, _, _, h10, _, _, _, _, hr, _⟩ := Dd.y0G h;simp only [Dd.rangeF, Bool.and_eq_true, List.all_eq_true] at hr;have := hr.2 _ hx;simp only [Dd.paOk, Bool.and_eq_true, Dd.isIx, decide_eq_true_eq] at this;omega
structure As (w : World) (v : Fv) (f : Dd.Fd) (A : Option Addr) (c : Nat) (y : List Int) (s o : Int) (W : World) : Prop where
 fs : Fs w w.heap.size v f W
 kS : Bk W (w.heap.size + 1) 3 #[.int .i64 s]
 kO : Bk W (w.heap.size + 2) 3 #[.int .i64 o]
 kY : Bk W (w.heap.size + 3) 28 #[.slice A y.length c]
 rY : Rd W w.heap.size 1 A y.length (icells y)
section
variable {w W W' : World} {v : Fv} {f : Dd.Fd} {A : Option Addr} {c : Nat} {y : List Int} {s o : Int}
theorem As.next (h : As w v f A c y s o W) (hb : Below W.heap.size W W') : As w v f A c y s o W' :=
 ⟨h.fs.next hb, h.kS.below hb h.kS.lt, h.kO.below hb h.kO.lt, h.kY.below hb h.kY.lt, h.rY.below hb h.fs.b.size⟩
theorem As.new (hF : FRd w w.heap.size v f) (hY : Rd w w.heap.size 1 A y.length (icells y)) :
  As w v f A c y s o ((((w.alloc (.cells #[.slice v.a1 f.st.length v.c1, .slice v.a2 f.li.length v.c2, .slice v.a3 f.pa.length v.c3, .slice v.a4 f.va.length v.c4] 27)).alloc (.cells #[.int .i64 s] 3)).alloc (.cells #[.int .i64 o] 3)).alloc (.cells #[.slice A y.length c] 28)) := by
 obtain ⟨w1, h1⟩ := zE (w.alloc (.cells #[.slice v.a1 f.st.length v.c1, .slice v.a2 f.li.length v.c2, .slice v.a3 f.pa.length v.c3, .slice v.a4 f.va.length v.c4] 27));have z1 : w1.heap.size = w.heap.size + 1 := by rw [<- h1]; simp
 have f1 : Fs w w.heap.size v f w1 := h1 ▸ Fs.new hF;rw [h1];obtain ⟨w2, h2⟩ := zE (w1.alloc (.cells #[.int .i64 s] 3));have z2 : w2.heap.size = w.heap.size + 2 := by rw [<- h2]; simp [z1]
 have b2 : Below w1.heap.size w1 w2 := by rw [<- h2]; exact (Below.refl _ _).alloc (Nat.le_refl _) _
 have k2 : Bk w2 (w.heap.size + 1) 3 #[.int .i64 s] := by rw [<- h2, <- z1]; exact Bk.new _ _ _
 rw [h2];obtain ⟨w3, h3⟩ := zE (w2.alloc (.cells #[.int .i64 o] 3));have z3 : w3.heap.size = w.heap.size + 3 := by rw [<- h3]; simp [z2]
 have b3 : Below w2.heap.size w2 w3 := by rw [<- h3]; exact (Below.refl _ _).alloc (Nat.le_refl _) _
 have k3 : Bk w3 (w.heap.size + 2) 3 #[.int .i64 o] := by rw [<- h3, <- z2]; exact Bk.new _ _ _
 rw [h3];have b4 : Below w3.heap.size w3 (w3.alloc (.cells #[.slice A y.length c] 28)) := (Below.refl _ _).alloc (Nat.le_refl _) _;have k4 : Bk (w3.alloc (.cells #[.slice A y.length c] 28)) (w.heap.size + 3) 28 #[.slice A y.length c] := by rw [<- z3]; exact Bk.new _ _ _
 have f4 := ((f1.next b2).next b3).next b4;exact ⟨f4, ((k2.below b3 k2.lt).below b4 (by omega)), k3.below b4 k3.lt, k4, hY.below f4.b (Nat.le_refl _)⟩
theorem As.cells (h : As w v f A c y s o W) : W.cell? ⟨w.heap.size + 1, 0, none⟩ = some (.int .i64 s) /\ W.cell? ⟨w.heap.size + 2, 0, none⟩ = some (.int .i64 o) /\ W.cell? ⟨w.heap.size + 3, 0, none⟩ = some (.slice A y.length c) /\ w.heap.size + 3 < W.heap.size :=
 ⟨(h.kS.cell 0).trans rfl, (h.kO.cell 0).trans rfl, (h.kY.cell 0).trans rfl, h.kY.lt⟩
end
theorem yCc (v : Fv) (f : Dd.Fd) (A : Option Addr) (c : Nat) (y : List Int) (s o : Int) (w : World) (hF : FRd w w.heap.size v f) (hY : Rd w w.heap.size 1 A y.length (icells y)) (hyl : y.length <= 1000000) :
  Calls Tryz.prog 17 #[fval v f, .int .i64 s, .int .i64 o, .slice A y.length c] w fun e w' => e = .returned (.tuple #[.int .i64 (Dd.atF f s o y).1, .int .i64 (Dd.atF f s o y).2]) /\ Below w.heap.size w w' := by
 have hmf := zM;have hd : Dd.atF f s o y = if Dd.fieldE f ≠ 0 then (0, Dd.fieldE f) else if Dd.isIx s f.st.length && decide (0 <= o /\ o <= 100000) && Dd.drw f y then
  (if Dd.idxP (Dd.hasP f s o y) f.pa 0 < 0 then (0, 5) else (Dd.idxP (Dd.hasP f s o y) f.pa 0, 0)) else (0, 1) := rfl
 have hl3 := hF.l3;have S0 := jQ (As.new (s := s) (o := o) (c := c) hF hY);have B0 := jQ (fun W (h : As w v f A c y s o W) => y0Y v f W h.fs.rd);have B1 := jQ (fun (h0 : Dd.fieldE f = 0) W (h : As w v f A c y s o W) => y3H v f A c y W h.fs.rd (h.rY.more h.fs.b.size) hyl h0);have B2 := jQ (fun (h0 : Dd.fieldE f = 0) (hd : Dd.drw f y = true) (hs : Dd.isIx s f.st.length = true) W (h : As w v f A c y s o W) =>
  y3J 56 #[.pointer (some ⟨w.heap.size + 3, 0, none⟩), .pointer (some ⟨w.heap.size, 0, none⟩), .pointer (some ⟨w.heap.size + 1, 0, none⟩), .pointer (some ⟨w.heap.size + 2, 0, none⟩)] (Dd.hasP f s o y) v.a3 v.c3 f.pa W (h.fs.rd.pa) hl3 (enters_of Tryz.func56 (by kernel_rfl) rfl)
   (fun x hx V hb => by
    have h' := h.next hb;have hff := Dd.y0G h0;simp only [Dd.isIx, decide_eq_true_eq] at hs;have hyn : y.length = Dd.ptsN f := by
     unfold Dd.drw at hd;simp only [Bool.and_eq_true, decide_eq_true_eq] at hd;exact hd.1.1.1
    exact yC3 v f x A c y s o _ _ _ _ V h'.fs.k h'.kY h'.kS h'.kO (h'.rY.more h'.fs.b.size) (by omega) (by omega) hs (Dd.y7C h0 x hx) hyn))
 rw [hd];obtain ⟨ef, hef⟩ := zE (Dd.fieldE f);rw [hef] at B0 B1 B2 ⊢;obtain ⟨j, hj⟩ := zE (Dd.idxP (Dd.hasP f s o y) f.pa 0);rw [hj] at B2 ⊢;simp only [y01] at B0 B1 ⊢;obtain ⟨c0, c1, c2, c3, lg⟩ := S0.o.fs.cells;obtain ⟨cS, cO, cY, lY⟩ := S0.o.cells;clear hd hF hef hj hY;by_cases he : ef = 0
 ·have B1' := jQ (B1.o he);have B2' := jQ (B2.o he);clear B1 B2;rw [if_neg (by simp [he])];subst he;have B1 := B1';have B2 := B2';clear B1' B2';rcases z1 : Dd.isIx s f.st.length with _ | _
  ·have D1 := jQ z1;rw [Bool.false_and, Bool.false_and, if_neg (by simp)];clear z1 B2;go_enter Tryz.func17, Tryz.ntmps17;go_wp2_with fail;refine (B0.o _ S0.o).mono ?_;rintro e w1 ⟨rfl, hb⟩;have S1 := jQ (S0.o.next hb);clear hb c0 c1 c2 c3 lg cS cO cY lY;obtain ⟨c0, c1, c2, c3, lg⟩ := S1.o.fs.cells;obtain ⟨cS, cO, cY, lY⟩ := S1.o.cells;go_wp2_with (go_at_call 44; refine (y0J _ _ _).mono ?_; rw [D1.o]; rintro e w' ⟨rfl, rfl⟩);go_ret2;exact ⟨rfl, S1.o.fs.b⟩
  have D1 := jQ z1;rcases z2 : decide (0 <= o /\ o <= 100000) with _ | _
  ·have D2 := jQ z2;rw [Bool.true_and, Bool.false_and, if_neg (by simp)];clear z1 z2 B2;go_enter Tryz.func17, Tryz.ntmps17;go_wp2_with fail;refine (B0.o _ S0.o).mono ?_;rintro e w1 ⟨rfl, hb⟩;have S1 := jQ (S0.o.next hb);clear hb c0 c1 c2 c3 lg cS cO cY lY;obtain ⟨c0, c1, c2, c3, lg⟩ := S1.o.fs.cells;obtain ⟨cS, cO, cY, lY⟩ := S1.o.cells;go_wp2_with (first | (go_at_call 44; refine (y0J _ _ _).mono ?_; rw [D1.o]; rintro e w' ⟨rfl, rfl⟩) | (go_at_call 48; refine (y0K _ _ _ _).mono ?_; rw [D2.o]; rintro e w' ⟨rfl, rfl⟩));go_ret2;exact ⟨rfl, S1.o.fs.b⟩
  have D2 := jQ z2;rcases z3 : Dd.drw f y with _ | _
  ·have D3 := jQ z3;rw [Bool.true_and, Bool.true_and, if_neg (by simp)];clear z1 z2 z3 B2;go_enter Tryz.func17, Tryz.ntmps17;go_wp2_with fail;refine (B0.o _ S0.o).mono ?_;rintro e w1 ⟨rfl, hb⟩;have S1 := jQ (S0.o.next hb);clear hb c0 c1 c2 c3 lg cS cO cY lY;obtain ⟨c0, c1, c2, c3, lg⟩ := S1.o.fs.cells;obtain ⟨cS, cO, cY, lY⟩ := S1.o.cells;go_wp2_with (first | (go_at_call 44; refine (y0J _ _ _).mono ?_; rw [D1.o]; rintro e w' ⟨rfl, rfl⟩) | (go_at_call 48; refine (y0K _ _ _ _).mono ?_; rw [D2.o]; rintro e w' ⟨rfl, rfl⟩) | (go_at_call 53; refine (B1.o _ S1.o).mono ?_; rw [D3.o]; rintro e w2 ⟨rfl, hb2⟩; have S2 := jQ (S1.o.next hb2); clear hb2; obtain ⟨y0, y1, y2, y3, yg⟩ := S2.o.fs.cells; obtain ⟨yS, yO, yY, yL⟩ := S2.o.cells));go_ret2;exact ⟨rfl, S2.o.fs.b⟩
  have D3 := jQ z3;have B2 := jQ (B2.o z3 z1);rw [Bool.true_and, Bool.true_and, if_pos rfl];clear z1 z2 z3;rcases z4 : decide (j < 0) with _ | _
  ·have z5 : ¬ j < 0 := of_decide_eq_false z4;rw [if_neg z5];clear z5;go_enter Tryz.func17, Tryz.ntmps17;go_wp2_with fail;refine (B0.o _ S0.o).mono ?_;rintro e w1 ⟨rfl, hb⟩;have S1 := jQ (S0.o.next hb);clear hb c0 c1 c2 c3 lg cS cO cY lY;obtain ⟨c0, c1, c2, c3, lg⟩ := S1.o.fs.cells;obtain ⟨cS, cO, cY, lY⟩ := S1.o.cells;go_wp2_with (first | (go_at_call 44; refine (y0J _ _ _).mono ?_; rw [D1.o]; rintro e w' ⟨rfl, rfl⟩) | (go_at_call 48; refine (y0K _ _ _ _).mono ?_; rw [D2.o]; rintro e w' ⟨rfl, rfl⟩) | (go_at_call 53; refine (B1.o _ S1.o).mono ?_; rw [D3.o]; rintro e w2 ⟨rfl, hb2⟩; have S2 := jQ (S1.o.next hb2); clear hb2; obtain ⟨y0, y1, y2, y3, yg⟩ := S2.o.fs.cells; obtain ⟨yS, yO, yY, yL⟩ := S2.o.cells) | (go_at_call 55; refine (B2.o _ S2.o).mono ?_; rintro e w3 ⟨rfl, hb3⟩; have S3 := jQ (S2.o.next hb3); clear hb3));go_ret2;exact ⟨rfl, S3.o.fs.b⟩
  have z5 : j < 0 := of_decide_eq_true z4;rw [if_pos z5];clear z5;go_enter Tryz.func17, Tryz.ntmps17;go_wp2_with fail;refine (B0.o _ S0.o).mono ?_;rintro e w1 ⟨rfl, hb⟩;have S1 := jQ (S0.o.next hb);clear hb c0 c1 c2 c3 lg cS cO cY lY;obtain ⟨c0, c1, c2, c3, lg⟩ := S1.o.fs.cells;obtain ⟨cS, cO, cY, lY⟩ := S1.o.cells;go_wp2_with (first | (go_at_call 44; refine (y0J _ _ _).mono ?_; rw [D1.o]; rintro e w' ⟨rfl, rfl⟩) | (go_at_call 48; refine (y0K _ _ _ _).mono ?_; rw [D2.o]; rintro e w' ⟨rfl, rfl⟩) | (go_at_call 53; refine (B1.o _ S1.o).mono ?_; rw [D3.o]; rintro e w2 ⟨rfl, hb2⟩; have S2 := jQ (S1.o.next hb2); clear hb2; obtain ⟨y0, y1, y2, y3, yg⟩ := S2.o.fs.cells; obtain ⟨yS, yO, yY, yL⟩ := S2.o.cells) | (go_at_call 55; refine (B2.o _ S2.o).mono ?_; rintro e w3 ⟨rfl, hb3⟩; have S3 := jQ (S2.o.next hb3); clear hb3));go_ret2;exact ⟨rfl, S3.o.fs.b⟩
 rw [if_pos he];have hne : (ef != 0) = true := by simp [he]
 go_enter Tryz.func17, Tryz.ntmps17;go_wp2_with fail;refine (B0.o _ S0.o).mono ?_;rintro e w1 ⟨rfl, hb⟩;have S1 := jQ (S0.o.next hb);clear hb c0 c1 c2 c3 lg cS cO cY lY;go_wp2_with fail;go_ret2;exact ⟨rfl, S1.o.fs.b⟩
end

section
open Go.RowKit
theorem y03 (x : Dd.Ca) : caval x = .agg #[.int .u8 x.k, .int .i64 x.l, .int .i64 x.o, .int .i64 x.a, .int .i64 x.b, .int .i64 x.s, .int .i64 x.e, .int .i64 x.c.b, .int .i64 x.c.n, .int .i64 x.c.l, .int .i64 x.c.y, .int .i64 x.c.w, .int .i64 x.c.s] := rfl
theorem y76 (v : Fv) (f : Dd.Fd) (x : Dd.Ca) (w : World) :
  Calls Tryz.prog 122 #[fval v f, caval x] w fun e w' => e = .returned (.bool (Dd.there f x)) /\ Below w.heap.size w w' := by
 have hd : Dd.there f x = (Dd.isIx x.l f.li.length && Dd.isIx x.o f.li.length && Dd.isIx x.a f.st.length && Dd.isIx x.b f.st.length && decide (-100000 <= x.s /\ x.s <= 100000) && decide (0 <= x.e /\ x.e <= 100000)) := rfl;have HB := jQ (fun (a b : Obj) => ((Below.refl w.heap.size w).alloc (Nat.le_refl _) a).alloc (by simp) b);rw [hd];clear hd;simp only [y01, y03];rcases z0 : Dd.isIx x.l f.li.length with _ | _
 ·have D0 := jQ z0;simp only [Bool.false_and, Bool.and_false];clear z0;go_enter Tryz.func122, Tryz.ntmps122;go_wp2_with (first | (go_at_call 44; refine (y0J _ _ _).mono ?_; (first | rw [D0.o]); rintro e w' ⟨rfl, rfl⟩));go_ret;exact ⟨rfl, HB.o _ _⟩
 have D0 := jQ z0;rcases z1 : Dd.isIx x.o f.li.length with _ | _
 ·have D1 := jQ z1;simp only [Bool.false_and, Bool.and_false];clear z0 z1;go_enter Tryz.func122, Tryz.ntmps122;go_wp2_with (first | (go_at_call 44; refine (y0J _ _ _).mono ?_; (first | rw [D0.o] | rw [D1.o]); rintro e w' ⟨rfl, rfl⟩));go_ret;exact ⟨rfl, HB.o _ _⟩
 have D1 := jQ z1;rcases z2 : Dd.isIx x.a f.st.length with _ | _
 ·have D2 := jQ z2;simp only [Bool.false_and, Bool.and_false];clear z0 z1 z2;go_enter Tryz.func122, Tryz.ntmps122;go_wp2_with (first | (go_at_call 44; refine (y0J _ _ _).mono ?_; (first | rw [D0.o] | rw [D1.o] | rw [D2.o]); rintro e w' ⟨rfl, rfl⟩));go_ret;exact ⟨rfl, HB.o _ _⟩
 have D2 := jQ z2;rcases z3 : Dd.isIx x.b f.st.length with _ | _
 ·have D3 := jQ z3;simp only [Bool.false_and, Bool.and_false];clear z0 z1 z2 z3;go_enter Tryz.func122, Tryz.ntmps122;go_wp2_with (first | (go_at_call 44; refine (y0J _ _ _).mono ?_; (first | rw [D0.o] | rw [D1.o] | rw [D2.o] | rw [D3.o]); rintro e w' ⟨rfl, rfl⟩));go_ret;exact ⟨rfl, HB.o _ _⟩
 have D3 := jQ z3;rcases z4 : decide (-100000 <= x.s /\ x.s <= 100000) with _ | _
 ·have D4 := jQ z4;simp only [Bool.false_and, Bool.and_false];clear z0 z1 z2 z3 z4;go_enter Tryz.func122, Tryz.ntmps122;go_wp2_with (first | (go_at_call 44; refine (y0J _ _ _).mono ?_; (first | rw [D0.o] | rw [D1.o] | rw [D2.o] | rw [D3.o]); rintro e w' ⟨rfl, rfl⟩) | (go_at_call 48; refine (y0K _ _ _ _).mono ?_; (first | rw [D4.o]); rintro e w' ⟨rfl, rfl⟩));go_ret;exact ⟨rfl, HB.o _ _⟩
 have D4 := jQ z4;rcases z5 : decide (0 <= x.e /\ x.e <= 100000) with _ | _
 ·have D5 := jQ z5;simp only [Bool.false_and, Bool.and_false];clear z0 z1 z2 z3 z4 z5;go_enter Tryz.func122, Tryz.ntmps122;go_wp2_with (first | (go_at_call 44; refine (y0J _ _ _).mono ?_; (first | rw [D0.o] | rw [D1.o] | rw [D2.o] | rw [D3.o]); rintro e w' ⟨rfl, rfl⟩) | (go_at_call 48; refine (y0K _ _ _ _).mono ?_; (first | rw [D4.o] | rw [D5.o]); rintro e w' ⟨rfl, rfl⟩));go_ret;exact ⟨rfl, HB.o _ _⟩
 have D5 := jQ z5;simp only [Bool.and_self];clear z0 z1 z2 z3 z4 z5;go_enter Tryz.func122, Tryz.ntmps122;go_wp2_with (first | (go_at_call 44; refine (y0J _ _ _).mono ?_; (first | rw [D0.o] | rw [D1.o] | rw [D2.o] | rw [D3.o]); rintro e w' ⟨rfl, rfl⟩) | (go_at_call 48; refine (y0K _ _ _ _).mono ?_; (first | rw [D4.o] | rw [D5.o]); rintro e w' ⟨rfl, rfl⟩));go_ret;exact ⟨rfl, HB.o _ _⟩
theorem y4z (x : Dd.Ca) (w : World) :
  Calls Tryz.prog 123 #[caval x] w fun e w' => e = .returned (.bool (Dd.ordered x)) /\ Below w.heap.size w w' := by
 have hd : Dd.ordered x = if x.k = 1 then decide (0 <= x.s) else if x.k = 2 then decide (x.l < x.o) && decide (0 <= x.s) else if x.k = 3 ∨ x.k = 5 then decide (x.a ≠ x.b)
  else if x.k = 4 then decide (x.l < x.o) && decide (x.a < x.b) else false := rfl
 have HB := jQ (fun (a : Obj) => (Below.refl w.heap.size w).alloc (Nat.le_refl _) a);obtain ⟨R, hR⟩ := zE (Dd.ordered x);rw [hR] at hd ⊢;clear hR;simp only [y03];obtain ⟨k, l, o, a, b, s, e, cb, cn, cl, cy, cw, cs⟩ := x;dsimp only at hd ⊢;by_cases k1 : k = 1
 ·subst k1;rw [if_pos rfl] at hd;have HD := jQ hd;clear hd;go_enter Tryz.func123, Tryz.ntmps123;go_wp2_with fail;go_ret;exact ⟨by rw [HD.o]; rfl, HB.o _⟩
 rw [if_neg k1] at hd;have g1 : (k == 1) = false := by simp [k1]
 by_cases k2 : k = 2
 ·subst k2;rw [if_pos rfl] at hd;rcases z : decide (l < o) with _ | _
  all_goals
   rw [z] at hd;simp only [Bool.false_and, Bool.true_and] at hd;have HD := jQ hd;clear hd;go_enter Tryz.func123, Tryz.ntmps123;go_wp2_with fail;go_ret;exact ⟨by rw [HD.o]; rfl, HB.o _⟩
 rw [if_neg k2] at hd;have g2 : (k == 2) = false := by simp [k2]
 by_cases k3 : k = 3
 ·rw [if_pos (.inl k3)] at hd;subst k3;have HD := jQ (show R = (a != b) by rw [hd]; simp [bne]; rfl);clear hd;go_enter Tryz.func123, Tryz.ntmps123;go_wp2_with fail;go_ret;exact ⟨by rw [HD.o]; rfl, HB.o _⟩
 have g3 : (k == 3) = false := by simp [k3]
 by_cases k5 : k = 5
 ·rw [if_pos (.inr k5)] at hd;subst k5;have HD := jQ (show R = (a != b) by rw [hd]; simp [bne]; rfl);clear hd;go_enter Tryz.func123, Tryz.ntmps123;go_wp2_with fail;go_ret;exact ⟨by rw [HD.o]; rfl, HB.o _⟩
 have g5 : (k == 5) = false := by simp [k5]
 rw [if_neg (by omega)] at hd;by_cases k4 : k = 4
 ·subst k4;rw [if_pos rfl] at hd;rcases z : decide (l < o) with _ | _
  all_goals
   rw [z] at hd;simp only [Bool.false_and, Bool.true_and] at hd;have HD := jQ hd;clear hd;go_enter Tryz.func123, Tryz.ntmps123;go_wp2_with fail;go_ret;exact ⟨by rw [HD.o]; rfl, HB.o _⟩
 have g4 : (k == 4) = false := by simp [k4]
 rw [if_neg k4] at hd;have HD := jQ hd;clear hd;go_enter Tryz.func123, Tryz.ntmps123;go_wp2_with fail;go_ret;exact ⟨by rw [HD.o]; rfl, HB.o _⟩
end
end Go.Proofs.YtccikcpcfdjobaaGreatDoor
