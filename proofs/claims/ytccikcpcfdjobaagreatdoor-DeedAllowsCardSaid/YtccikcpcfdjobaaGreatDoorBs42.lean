/-
  What the claim needs: contracts.
-/
import Derived.Test.YtccikcpcfdjobaaGreatDoorBs31
import Derived.Test.YtccikcpcfdjobaaGreatDoorBs40
set_option linter.unusedVariables false
set_option linter.unusedSimpArgs false
set_option maxHeartbeats 8000000
set_option maxRecDepth 100000
namespace Go.Proofs.YtccikcpcfdjobaaGreatDoor
section
open Go.RowKit
theorem y6B (A1 A2 : Option Addr) (c1 c2 : Nat) (bs cs : List Dd.Bd) (w : World) (h1 : Rd w w.heap.size 4 A1 bs.length (bcells bs)) (h2 : Rd w w.heap.size 4 A2 cs.length (bcells cs)) (hl1 : bs.length <= 1000000) (hl2 : cs.length <= 1000000) :
  Calls Tryz.prog 65 #[.slice A1 bs.length c1, .slice A2 cs.length c2] w fun e w' => e = .returned (.bool (Dd.sub bs cs)) /\ Below w.heap.size w w' := by
 have H1 := jQ h1;have H2 := jQ h2;obtain ⟨r, hr⟩ := zE (Dd.sub bs cs);have HRR := jQ hr;rw [hr];clear h1 h2 hr;go_enter Tryz.func65, Tryz.ntmps65;go_wp2_with fail;go_loopw [5] (fun I wr => ∃ k : Nat, k <= bs.length /\ I = .int .i64 k /\ (∀ j (h : j < bs.length), j < k -> bs[j] ∈ cs) /\ Below w.heap.size w wr) (fun I _ => bs.length - (intOf I).toNat)
 case atStart => exact ⟨0, Nat.zero_le _, rfl, (fun j h hj => absurd hj (by omega)), Below.refl _ _⟩
 obtain ⟨k, hk, rfl, ha, hB⟩ := hrel;have HA := jQ ha;have HB := jQ hB;clear ha hB;by_cases hlt : k < bs.length
 ·obtain ⟨x, hx⟩ := zE (bs[k]);have HX := jQ hx;clear hx;go_wp2_with fail;go_loopw [6, 7] (fun S I wr => ∃ m : Nat, m <= cs.length /\ S = .bool (decide (x ∈ cs.take m)) /\ I = .int .i64 m /\ Below w.heap.size w wr) (fun _ I _ => cs.length - (intOf I).toNat)
  case atStart => exact ⟨0, Nat.zero_le _, by simp, rfl, HB.o⟩
  obtain ⟨m, hm, rfl, rfl, hB⟩ := hrel;have HB2 := jQ hB;clear hB HB;by_cases hmt : m < cs.length
  ·obtain ⟨s, hs⟩ := zE (decide (x ∈ cs.take m));rw [hs];obtain ⟨z, hz⟩ := zE (cs[m]);have HNX := jQ (show decide (x ∈ cs.take (m + 1)) = (s || decide (x = z)) by
    rw [<- hs, List.take_succ_eq_append_getElem hmt, hz, Bool.eq_iff_iff];simp)
   rcases s with _ | _
   ·obtain ⟨b, off, rfl, hb, e0, e1, e2, e3⟩ := (H1.o.below HB2.o (Nat.le_refl _)).bound hlt;obtain ⟨b', off', rfl, hb', e0', e1', e2', e3'⟩ := (H2.o.below HB2.o (Nat.le_refl _)).bound hmt;have hb2 : b < wr.heap.size := Nat.lt_of_lt_of_le hb HB2.o.size;have hb3 : b' < wr.heap.size := Nat.lt_of_lt_of_le hb' HB2.o.size;rw [HX.o] at e0 e1 e2 e3;rw [hz] at e0' e1' e2' e3';have hki : (k : Int) < (bs.length : Int) := by omega
    have hmi : (m : Int) < (cs.length : Int) := by omega
    clear hs hz;by_cases hxz : x = z
    ·subst hxz;have HT := jQ (show decide (x ∈ cs.take (m + 1)) = true by rw [HNX.o]; simp);go_wp2_with fail;go_quiet (fail);go_wp2_with fail;go_roundw
     case rel => exact ⟨m + 1, by omega, by rw [HT.o], by go_num, y05 HB2.o _⟩
     case measure => simp [intOf]; omega
    have HT := jQ (show decide (x ∈ cs.take (m + 1)) = false by rw [HNX.o]; simp [hxz]);have hne : ∀ Y : Prop, x.f = z.f -> x.t = z.t -> x.m = z.m -> x.r = z.r -> Y := fun Y h1 h2 h3 h4 => by
     obtain ⟨x1, x2, x3, x4⟩ := x;obtain ⟨z1, z2, z3, z4⟩ := z;dsimp only at h1 h2 h3 h4;subst h1 h2 h3 h4;exact absurd rfl hxz
    have HNE := jQ hne;clear hxz hne;go_wp2_with fail;refine wp_region_quiet_lit (by kernel_rfl) (by kernel_rfl) ?_
    repeat (quiet_step (fail))
    refine wpQuiet_step (fun K hK => ?_);rw [if_pos (by rfl)];refine ⟨.bool false, fun w' hw' => ?_, hK _ ?_⟩
    ·go_simp;by_cases q1 : x.f = z.f
     ·by_cases q2 : x.t = z.t
      ·by_cases q3 : x.m = z.m
       ·by_cases q4 : x.r = z.r
        ·exact HNE.o _ q1 q2 q3 q4
        simp [q1, q2, q3, q4]
       simp [q1, q2, q3]
      simp [q1, q2]
     simp [q1]
    clear hK K
    repeat (quiet_step (fail))
    refine wpQuiet_nil ?_;intro _ hw';obtain ⟨nq, hw''⟩ := hw';subst hw'';go_wp2_with fail;go_roundw
    case rel => exact ⟨m + 1, by omega, by rw [HT.o], by go_num, y05 HB2.o _⟩
    case measure => simp [intOf]; omega
   have HT := jQ (show decide (x ∈ cs.take (m + 1)) = true by rw [HNX.o]; rfl);clear hs hz;go_wp2_with fail;go_quiet (fail);go_wp2_with fail;go_roundw
   case rel => exact ⟨m + 1, by omega, by rw [HT.o], by go_num, y05 HB2.o _⟩
   case measure => simp [intOf]; omega
  obtain rfl : m = cs.length := by omega
  rw [List.take_length];by_cases hin : x ∈ cs
  ·have hdi : decide (x ∈ cs) = true := decide_eq_true hin;rw [hdi];have HIN := jQ hin;clear hin hdi;go_wp2_with fail;go_roundw
   case rel =>
    refine ⟨k + 1, by omega, by go_num, fun j h hj => ?_, HB2.o⟩;by_cases e : j = k
    ·subst e;rw [HX.o];exact HIN.o
    exact HA.o j h (by omega)
   case measure => simp [intOf]; omega
  have hdi : decide (x ∈ cs) = false := decide_eq_false hin;rw [hdi];have HV := jQ (show r = false by
   rw [<- HRR.o];unfold Dd.sub;rw [List.all_eq_false];exact ⟨x, by rw [<- HX.o]; exact List.getElem_mem hlt, by simpa using hin⟩)
  clear hin hdi;go_wp2_with fail;go_ret;exact ⟨by rw [HV.o]; rfl, HB2.o⟩
 obtain rfl : k = bs.length := by omega
 have HV := jQ (show r = true by
  rw [<- HRR.o];unfold Dd.sub;rw [List.all_eq_true];intro y hy;obtain ⟨j, hj, e⟩ := List.getElem_of_mem hy;rw [<- e];exact decide_eq_true (HA.o j hj hj))
 go_wp2_with fail;go_ret;exact ⟨by rw [HV.o]; rfl, HB.o⟩
end

section
open Go.RowKit
theorem Dd.y4L {f : Dd.Fd} {x : Dd.Ca} (h : Dd.callE f x = 0) (r : Int) : (Dd.bnds f x r).length <= 1000000 := by
 have h1 := Dd.y2C h;have h2 := (Dd.y0G (Dd.y0F h).1).2.2.1;rw [Dd.y1s];omega
structure Sr (w : World) (v : Fv) (f : Dd.Fd) (a b : Dd.Ca) (W : World) : Prop where
 cr : Cr w v f a W
 kB : Bk W (w.heap.size + 1 + 1) 48 #[.int .u8 b.k, .int .i64 b.l, .int .i64 b.o, .int .i64 b.a, .int .i64 b.b, .int .i64 b.s, .int .i64 b.e, .int .i64 b.c.b, .int .i64 b.c.n, .int .i64 b.c.l, .int .i64 b.c.y, .int .i64 b.c.w, .int .i64 b.c.s]
section
variable {w W W' : World} {v : Fv} {f : Dd.Fd} {a b : Dd.Ca}
theorem Sr.next (h : Sr w v f a b W) (hb : Below W.heap.size W W') : Sr w v f a b W' := ⟨h.cr.next hb, h.kB.below hb h.kB.lt⟩
theorem Sr.new (hF : FRd w w.heap.size v f) : Sr w v f a b (((w.alloc (.cells #[.slice v.a1 f.st.length v.c1, .slice v.a2 f.li.length v.c2, .slice v.a3 f.pa.length v.c3, .slice v.a4 f.va.length v.c4] 27)).alloc (.cells #[.int .u8 a.k, .int .i64 a.l, .int .i64 a.o, .int .i64 a.a, .int .i64 a.b, .int .i64 a.s, .int .i64 a.e, .int .i64 a.c.b, .int .i64 a.c.n, .int .i64 a.c.l, .int .i64 a.c.y, .int .i64 a.c.w, .int .i64 a.c.s] 48)).alloc (.cells #[.int .u8 b.k, .int .i64 b.l, .int .i64 b.o, .int .i64 b.a, .int .i64 b.b, .int .i64 b.s, .int .i64 b.e, .int .i64 b.c.b, .int .i64 b.c.n, .int .i64 b.c.l, .int .i64 b.c.y, .int .i64 b.c.w, .int .i64 b.c.s] 48)) := by
 have h := Cr.new (x := a) hF;obtain ⟨w1, h1⟩ := zE (((w.alloc (.cells #[.slice v.a1 f.st.length v.c1, .slice v.a2 f.li.length v.c2, .slice v.a3 f.pa.length v.c3, .slice v.a4 f.va.length v.c4] 27)).alloc (.cells #[.int .u8 a.k, .int .i64 a.l, .int .i64 a.o, .int .i64 a.a, .int .i64 a.b, .int .i64 a.s, .int .i64 a.e, .int .i64 a.c.b, .int .i64 a.c.n, .int .i64 a.c.l, .int .i64 a.c.y, .int .i64 a.c.w, .int .i64 a.c.s] 48)));have z1 : w1.heap.size = w.heap.size + 1 + 1 := by rw [<- h1]; simp
 rw [h1] at h ⊢;clear h1;have b1 := (Below.refl w1.heap.size w1).alloc (Nat.le_refl _) (.cells #[.int .u8 b.k, .int .i64 b.l, .int .i64 b.o, .int .i64 b.a, .int .i64 b.b, .int .i64 b.s, .int .i64 b.e, .int .i64 b.c.b, .int .i64 b.c.n, .int .i64 b.c.l, .int .i64 b.c.y, .int .i64 b.c.w, .int .i64 b.c.s] 48);have k1 := Bk.new w1 48 #[.int .u8 b.k, .int .i64 b.l, .int .i64 b.o, .int .i64 b.a, .int .i64 b.b, .int .i64 b.s, .int .i64 b.e, .int .i64 b.c.b, .int .i64 b.c.n, .int .i64 b.c.l, .int .i64 b.c.y, .int .i64 b.c.w, .int .i64 b.c.s];rw [z1] at k1;exact ⟨h.next b1, k1⟩
end
theorem y8w (v : Fv) (f : Dd.Fd) (a b : Dd.Ca) (w : World) (hF : FRd w w.heap.size v f) :
  Calls Tryz.prog 23 #[fval v f, caval a, caval b] w fun e w' => e = .returned (.tuple #[.bool (Dd.sameF f a b).1, .int .i64 (Dd.sameF f a b).2]) /\ Below w.heap.size w w' := by
 have hd : Dd.sameF f a b = if Dd.callE f a ≠ 0 then (false, Dd.callE f a) else if Dd.callE f b ≠ 0 then (false, Dd.callE f b) else (Dd.sub (Dd.bnds f a 0) (Dd.bnds f b 0) && Dd.sub (Dd.bnds f b 0) (Dd.bnds f a 0), 0) := rfl
 have ba : ∀ x : Dd.Ca, Dd.boundsF f x 0 = if Dd.callE f x ≠ 0 then ([], Dd.callE f x) else (Dd.bnds f x 0, 0) := fun x => by
  unfold Dd.boundsF;by_cases h : Dd.callE f x = 0
  ·have h9 : ¬ Dd.callE f x ≠ 0 := fun hn => hn h;rw [if_neg h9, if_neg h9, if_pos (show (0 : Int) <= 0 /\ (0 : Int) <= 1000000 by omega)]
  rw [if_pos h, if_pos h]
 have S0 := jQ (Sr.new (a := a) (b := b) hF);have B1 := jQ (fun W (h : Sr w v f a b W) => y2k v f a 0 W h.cr.fs.rd);have B2 := jQ (fun W (h : Sr w v f a b W) => y2k v f b 0 W h.cr.fs.rd);have ha := Dd.y4L (f := f) (x := a);have hb := Dd.y4L (f := f) (x := b);rw [ba a] at B1;rw [ba b] at B2;simp only [y01, y03] at B1 B2 S0 ⊢;obtain ⟨E, hE⟩ := zE (Dd.callE f a);obtain ⟨F, hFF⟩ := zE (Dd.callE f b);obtain ⟨xs, hxs⟩ := zE (Dd.bnds f a 0);obtain ⟨ys, hys⟩ := zE (Dd.bnds f b 0);rw [hE, hFF, hxs, hys] at hd;rw [hE, hxs] at B1;rw [hFF, hys] at B2;rw [hd];have HXL := jQ (show E = 0 -> xs.length <= 1000000 from fun h => by rw [<- hxs]; exact ha (hE.trans h) 0);have HYL := jQ (show F = 0 -> ys.length <= 1000000 from fun h => by rw [<- hys]; exact hb (hFF.trans h) 0);clear hd ba hF ha hb hE hFF hxs hys;obtain ⟨⟨⟨⟨f0, f1⟩, f2, f3⟩, ⟨⟨c0, c1⟩, c2, c3⟩⟩, ⟨⟨⟨c4, c5⟩, c6, c7⟩, ⟨⟨c8, c9⟩, c10, c11, c12⟩⟩⟩ := S0.o.cr.tree;obtain ⟨⟨⟨⟨d0, d1, d2⟩, d3, d4, d5⟩, ⟨d6, d7, d8⟩, d9, d10, d11, d12⟩, dl⟩ := y0D S0.o.kB;by_cases h0 : E = 0
 ·subst h0;rw [if_neg (by simp)] at B1 ⊢;have HXL := jQ (HXL.o rfl);by_cases h1 : F = 0
  ·subst h1;rw [if_neg (by simp)] at B2 ⊢;have HYL := jQ (HYL.o rfl);obtain ⟨p1, hp1⟩ := zE (Dd.sub xs ys);obtain ⟨p2, hp2⟩ := zE (Dd.sub ys xs);have P1 := jQ (fun A1 A2 c1 c2 W h1 h2 => y6B A1 A2 c1 c2 xs ys W h1 h2 HXL.o HYL.o);have P2 := jQ (fun A1 A2 c1 c2 W h1 h2 => y6B A1 A2 c1 c2 ys xs W h1 h2 HYL.o HXL.o);rw [hp1] at P1;rw [hp2] at P2;rw [hp1, hp2];clear hp1 hp2;dsimp only at B1 B2 ⊢;go_enter Tryz.func23, Tryz.ntmps23;go_wp2_with fail;refine (B1.o _ S0.o).mono ?_;rintro ee w1 ⟨A1, k1, rfl, hr1, hb1⟩;have S1 := jQ (S0.o.next hb1);have R1 := jQ hr1;clear hb1 hr1 f0 f1 f2 f3 c0 c1 c2 c3 c4 c5 c6 c7 c8 c9 c10 c11 c12 d0 d1 d2 d3 d4 d5 d6 d7 d8 d9 d10 d11 d12 dl S0;obtain ⟨⟨⟨⟨f0, f1⟩, f2, f3⟩, ⟨⟨c0, c1⟩, c2, c3⟩⟩, ⟨⟨⟨c4, c5⟩, c6, c7⟩, ⟨⟨c8, c9⟩, c10, c11, c12⟩⟩⟩ := S1.o.cr.tree;obtain ⟨⟨⟨⟨d0, d1, d2⟩, d3, d4, d5⟩, ⟨d6, d7, d8⟩, d9, d10, d11, d12⟩, dl⟩ := y0D S1.o.kB;go_wp2_with fail;refine (B2.o _ S1.o).mono ?_;rintro ee w2 ⟨A2, k2, rfl, hr2, hb2⟩;have S2 := jQ (S1.o.next hb2);have R2 := jQ hr2;have R3 := jQ ((R1.o.below hb2 (Nat.le_refl _)).more hb2.size);clear hb2 hr2 f0 f1 f2 f3 c0 c1 c2 c3 c4 c5 c6 c7 c8 c9 c10 c11 c12 d0 d1 d2 d3 d4 d5 d6 d7 d8 d9 d10 d11 d12 dl S1 R1;rcases p1 with _ | _
   ·go_wp2_with fail;refine (P1.o _ _ _ _ _ R3.o R2.o).mono ?_;rintro ee w3 ⟨rfl, hb3⟩;have S3 := jQ (S2.o.next hb3);clear hb3;go_wp2_with fail;go_ret2;exact ⟨rfl, S3.o.cr.fs.b⟩
   go_wp2_with fail;refine (P1.o _ _ _ _ _ R3.o R2.o).mono ?_;rintro ee w3 ⟨rfl, hb3⟩;have S3 := jQ (S2.o.next hb3);have R4 := jQ ((R2.o.below hb3 (Nat.le_refl _)).more hb3.size);have R5 := jQ ((R3.o.below hb3 (Nat.le_refl _)).more hb3.size);clear hb3;go_wp2_with fail;refine (P2.o _ _ _ _ _ R4.o R5.o).mono ?_;rintro ee w4 ⟨rfl, hb4⟩;have S4 := jQ (S3.o.next hb4);clear hb4;rcases p2 with _ | _
   ·go_wp2_with fail;go_ret2;exact ⟨rfl, S4.o.cr.fs.b⟩
   go_wp2_with fail;go_ret2;exact ⟨rfl, S4.o.cr.fs.b⟩
  have hne : (F != 0) = true := by simp [h1]
  rw [if_pos h1] at B2 ⊢;dsimp only at B1 B2 ⊢;clear h1;go_enter Tryz.func23, Tryz.ntmps23;go_wp2_with fail;refine (B1.o _ S0.o).mono ?_;rintro ee w1 ⟨A1, k1, rfl, -, hb1⟩;have S1 := jQ (S0.o.next hb1);clear hb1 f0 f1 f2 f3 c0 c1 c2 c3 c4 c5 c6 c7 c8 c9 c10 c11 c12 d0 d1 d2 d3 d4 d5 d6 d7 d8 d9 d10 d11 d12 dl S0;obtain ⟨⟨⟨⟨f0, f1⟩, f2, f3⟩, ⟨⟨c0, c1⟩, c2, c3⟩⟩, ⟨⟨⟨c4, c5⟩, c6, c7⟩, ⟨⟨c8, c9⟩, c10, c11, c12⟩⟩⟩ := S1.o.cr.tree;obtain ⟨⟨⟨⟨d0, d1, d2⟩, d3, d4, d5⟩, ⟨d6, d7, d8⟩, d9, d10, d11, d12⟩, dl⟩ := y0D S1.o.kB;go_wp2_with fail;refine (B2.o _ S1.o).mono ?_;rintro ee w2 ⟨A2, k2, rfl, -, hb2⟩;have S2 := jQ (S1.o.next hb2);clear hb2 f0 f1 f2 f3 c0 c1 c2 c3 c4 c5 c6 c7 c8 c9 c10 c11 c12 d0 d1 d2 d3 d4 d5 d6 d7 d8 d9 d10 d11 d12 dl S1;go_wp2_with fail;go_ret2;exact ⟨rfl, S2.o.cr.fs.b⟩
 have hne : (E != 0) = true := by simp [h0]
 rw [if_pos h0] at B1 ⊢;dsimp only at B1 ⊢;clear h0;go_enter Tryz.func23, Tryz.ntmps23;go_wp2_with fail;refine (B1.o _ S0.o).mono ?_;rintro ee w1 ⟨A1, k1, rfl, -, hb1⟩;have S1 := jQ (S0.o.next hb1);clear hb1 f0 f1 f2 f3 c0 c1 c2 c3 c4 c5 c6 c7 c8 c9 c10 c11 c12 d0 d1 d2 d3 d4 d5 d6 d7 d8 d9 d10 d11 d12 dl S0;go_wp2_with fail;go_ret2;exact ⟨rfl, S1.o.cr.fs.b⟩
end
end Go.Proofs.YtccikcpcfdjobaaGreatDoor
