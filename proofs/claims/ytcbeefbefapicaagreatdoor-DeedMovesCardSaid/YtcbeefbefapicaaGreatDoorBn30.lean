/-
  What the claims of layer deed need of the texts DAs, DBo, DAl.
-/
import Derived.Test.YtcbeefbefapicaaGreatDoorBn28
import Derived.Test.YtcbeefbefapicaaGreatDoorBn10
import Derived.Test.YtcbeefbefapicaaGreatDoorBn17
import Derived.Test.YtcbeefbefapicaaGreatDoorBn18
import Derived.Test.YtcbeefbefapicaaGreatDoorBn14
set_option linter.unusedVariables false
set_option linter.unusedSimpArgs false
namespace Go.Proofs.YtcbeefbefapicaaGreatDoor
open Go.RowKit Go.Shelf
set_option maxRecDepth 100000
attribute [local go_sem] Oper.semAt_some
def ApI (w : World) (pre : List Dd.Bd) (W : World) : Prop :=
 ∃ V, Bk W w.heap.size 45 #[V] ∧ W.ownsRow (w.heap.size + 1) 77 4 V pre.length (bcells pre) ∧ Below w.heap.size w W
theorem apI_own {w : World} {f : Dd.Fd} {x : Dd.Ca} {r : Int} {B : Nat} (hB : w.heap.size ≤ B) : OwnFrom B (fun (pre : List (Dd.Ib f x r)) W => ApI w (pre.map (·.1)) W) := by
 rintro pre W W' row ⟨v, h2, h3, h4⟩ hg hr
 exact ⟨v, bk_own h2 hg (fun r e => (hr r e).2), own_cells h3 hg (fun r e => (hr r e).2), below_own h4 hB hg (fun r e => (hr r e).1) h4.size⟩
theorem apI_step {w W w1 : World} {V V' : Value} {pre : List Dd.Bd} {b : Dd.Bd} (i2 : Bk W w.heap.size 45 #[V]) (i3 : W.ownsRow (w.heap.size + 1) 77 4 V pre.length (bcells pre)) (i4 : Below w.heap.size w W)
  (hown : w1.ownsRow (w.heap.size + 1) 77 4 V' (pre.length + 1) (bcells pre ++ bcell b)) (hg : (W.alloc (.cells (bcell b).toArray 77)).grownBy w1 V.ownBlock) :
  w1.cell? ⟨w.heap.size, 0, none⟩ = some V ∧ w1.frozen? ⟨w.heap.size, 0, none⟩ = false ∧ w.heap.size < w1.heap.size ∧
  Hid (KeepsFrom (w.heap.size + 1) W (w1.setCell ⟨w.heap.size, 0, none⟩ V') ∧ Kc (w.heap.size + 1) (fun j => j = w.heap.size) W (w1.setCell ⟨w.heap.size, 0, none⟩ V') ∧ ApI w (pre ++ [b]) (w1.setCell ⟨w.heap.size, 0, none⟩ V')) := by
 have n2 : some w.heap.size ≠ V.ownBlock := fun e => by have := (i3.lt _ e.symm).1; omega
 have j2 := i2.alloc (.cells (bcell b).toArray 77)
 have j3 := i3.alloc (.cells (bcell b).toArray 77)
 have a2 := j2.grown hg n2
 have hl := i2.lt
 refine ⟨(a2.cell 0).trans rfl, a2.frozen 0, a2.lt, Lib.hid ⟨?_, ?_, V', a2.set 0 _, ?_, ?_⟩⟩
 ·exact (((KeepsOthers.alloc W (.cells (bcell b).toArray 77)).from _).trans (kf_own j3 hg _)).trans (kf_grown (grown_setCell w1 ⟨w.heap.size, 0, none⟩ V') (fun k e => by cases e; exact ⟨_, _, _, a2⟩) _)
 ·exact (((Kc.refl (w.heap.size + 1) (fun j => j = w.heap.size) W).alloc (by omega) _).trans (Kc.own j3 hg (by rw [World.size_alloc]; omega) (Nat.le_refl _) (by decide))).setBk a2 (by decide) (fun _ => rfl) 0 V'
 ·rw [List.length_append, show bcells (pre ++ [b]) = bcells pre ++ bcell b by simp [bcells]]
  exact own_set hown (Nat.lt_succ_self _) V'
 ·exact ((i4.alloc i4.size _).grown hg (by rw [World.size_alloc]; have := i4.size; omega) (fun k hk => by have := (j3.lt k hk).1; omega)).setCell (Nat.le_refl _) _
set_option maxHeartbeats 8000000 in
theorem appendSeq_any (Bf Bc Br B : Nat) (v : Fv) (f : Dd.Fd) (x : Dd.Ca) (r : Int) (he : Dd.callE f x = 0) (w : World) (hY : Yc B Bf Bc Br v f x r w) (hB : B ≤ w.heap.size) (hg : 5 < B) :
  Calls Tryz.prog 70 #[.slice none 0 0, .func (.func 71) #[] #[.pointer (some ⟨Bf, 0, none⟩), .pointer (some ⟨Bc, 0, none⟩), .pointer (some ⟨Br, 0, none⟩)]] w fun e w' =>
   ∃ A c, e = .returned (.slice A (Dd.bnds f x r).length c) ∧ Rd w' w'.heap.size 4 A (Dd.bnds f x r).length (bcells (Dd.bnds f x r)) ∧ (Dd.bnds f x r).length ≤ c ∧ Below w.heap.size w w' := by
 obtain ⟨i0, hi0, hy0, hy1, hy2⟩ := info_parts infoB
 have hlF := hY.kF.lt
 have hlC := hY.kC.lt
 have hlR := hY.kR.lt
 have hlen := Dd.bnds_len f x r
 have hgl := Dd.gaps_len he
 have hl1 := hY.rd.l1
 have hB0 := (Below.refl w.heap.size w).alloc (Nat.le_refl _) (.cells #[.slice none 0 0] 45)
 have k0 := Bk.new w 45 #[.slice none 0 0]
 have e0 : (w.alloc (.cells #[.slice none 0 0] 45)).heap.size = w.heap.size + 1 := World.size_alloc _ _
 have y0 := hY.below hB0 hlF hlC hlR hB (by omega)
 have hst := fun W (hM : w.heap.size + 1 ≤ W.heap.size) h => bounds_stops 2 (by omega) Bf Bc Br (w.heap.size + 1) B (fun j => j = w.heap.size) v f x r he (fun j hj => by omega) (by omega) (by omega) (by omega) (by omega) hg (by omega) (by omega) (by omega) W hM h
 have HST := Lib.hid hst
 have HLEN := Lib.hid hlen
 clear hst hlen hY
 refine (callsIn_wide (n := 3)).1 ?_
 refine callsIn_of_wp_marks Tryz.func70 rfl trivial ?_ rfl
 simp only [Tryz.ntmps70, List.size_toArray, List.length_cons, List.length_nil, Nat.reduceAdd, Nat.reduceSub, Array.replicate_succ, Array.replicate_zero, List.push_toArray, List.append_toArray, List.nil_append, List.cons_append]
 gi_wp2_with (fail)
 obtain ⟨W0, hW0⟩ : ∃ W0, (w.alloc (.cells #[.slice none 0 0] 45)) = W0 := ⟨_, rfl⟩
 rw [hW0] at k0 hB0 e0 y0 ⊢
 clear hW0
 have hz0 : W0.heap.size ≤ w.heap.size + 1 := by omega
 have hz1 : w.heap.size + 1 ≤ W0.heap.size := by omega
 have e1 : w.heap.size + 1 = W0.heap.size := e0.symm
 have E1 := Lib.hid e1
 clear e0 e1
 refine wpIn_rangeFunc_ownH (F := Fence.wide) (n := 3) rfl (by omega) (gf := 71) (lb := #[.pointer (some ⟨Bf, 0, none⟩), .pointer (some ⟨Bc, 0, none⟩), .pointer (some ⟨Br, 0, none⟩)]) rfl trivial (enters_of Tryz.func71 (by kernel_rfl) rfl)
  (HST.out W0 hz1 y0) kc_t (kc_b hz1) (Below.refl _ _) (fun _ => rfl)
  (fun pre W' => ApI w (pre.map (·.1)) W')
  (fun _ _ _ => False)
  (apI_own (by omega))
  (fun _ _ _ _ _ h _ _ => h)
  ⟨.slice none 0 0, k0, World.ownsRow_nil _ _ _ _, hB0⟩
  (fun b a' W' => ∃ Bx, w.heap.size + 1 ≤ Bx ∧ Bk W' Bx 77 #[.int .i64 b.1.f, .int .i64 b.1.t, .int .i64 b.1.m, .int .i64 b.1.r] ∧ (∃ V, Bk W' w.heap.size 45 #[V] ∧ V.ownBlock ≠ some Bx) ∧ a' = { tmps := #[.slice none 0 0, .func (.func 71) #[] #[.pointer (some ⟨Bf, 0, none⟩), .pointer (some ⟨Bc, 0, none⟩), .pointer (some ⟨Br, 0, none⟩)], .pointer (some ⟨w.heap.size, 0, none⟩), undef, .slice none 0 0, .pointer (some ⟨Bx, 0, none⟩), .func (.func 71) #[] #[.pointer (some ⟨Bf, 0, none⟩), .pointer (some ⟨Bc, 0, none⟩), .pointer (some ⟨Br, 0, none⟩)], .agg #[.int .i64 b.1.f, .int .i64 b.1.t, .int .i64 b.1.m, .int .i64 b.1.r], undef, undef, undef, undef, undef], defers := [] })
  (fun b a' _ X Y row hs hg hr => by obtain ⟨Bx, h1, h2, ⟨V, h3, h4⟩, h5⟩ := hs; exact ⟨Bx, h1, bk_own h2 hg (fun r e => (hr r e).2), ⟨V, bk_own h3 hg (fun r e => (hr r e).2), h4⟩, h5⟩)
  ?assign ?body ?done ?stop
 case assign =>
  rintro l pre b W' KK i1 hKK
  rw [show ibv b = #[.agg #[.int .i64 b.1.f, .int .i64 b.1.t, .int .i64 b.1.m, .int .i64 b.1.r]] from rfl]
  have I1 := Lib.hid i1
  have HKK := Lib.hid hKK
  clear i1 hKK
  gi_wp2_with (fail)
  obtain ⟨V, q2, q3, q4⟩ := I1.out
  have hl := q2.lt
  refine HKK.out _ _ ((KeepsOthers.alloc _ _).from _) ((Kc.refl _ _ _).alloc (by omega) _) ⟨V, q2.alloc _, q3.alloc _, q4.alloc q4.size _⟩ ⟨W'.heap.size, by omega, Bk.new W' _ _, ⟨V, q2.alloc _, fun e => by have := (q3.lt _ e).2; omega⟩, rfl⟩
 case body =>
  rintro l' pre b a' W' hl' ⟨rr, hr⟩ ⟨V, i2, i3, i4⟩ ⟨Bx, hBx, bX, ⟨V', j2, j3⟩, rfl⟩ hltp
  rw [List.length_map] at i3
  obtain ⟨⟨bf, bt, bm, br⟩, hb⟩ := b
  dsimp only at bX
  have x0 := (bX.cell 0).trans rfl
  have x1 := (bX.cell 1).trans rfl
  have x2 := (bX.cell 2).trans rfl
  have x3 := (bX.cell 3).trans rfl
  have cw := (i2.cell 0).trans rfl
  have lX := bX.lt
  have l2 := i2.lt
  have hpn := fun w1 v' h1 h2 => apI_step (b := ⟨bf, bt, bm, br⟩) i2 (by rw [List.length_map]; exact i3) i4 (w1 := w1) (V' := v') h1 h2
  have hmap : (pre ++ [(⟨⟨bf, bt, bm, br⟩, hb⟩ : Dd.Ib f x r)]).map (·.1) = pre.map (·.1) ++ [⟨bf, bt, bm, br⟩] := by simp
  have hcl : (pre.map (·.1)).length + 1 = pre.length + 1 := by simp
  rw [hcl] at hpn
  have HM := Lib.hid hmap
  have hOn := i3.alloc (.cells #[.int .i64 bf, .int .i64 bt, .int .i64 bm, .int .i64 br] 77)
  have hb47 : pre.length + 1 ≤ 10000000 := by have := HLEN.out; omega
  have HPN := Lib.hid hpn
  have HON := Lib.hid hOn
  clear i2 i3 i4 bX j2 j3 hpn hcl hmap hOn hltp
  gi_wp2_with (first
   | (refine wpListIn_append_own_at _ rfl _ _ 45 rfl (w.heap.size + 1) 77 i0 _ 4 32 Tryz.underlying45 hi0 hy0 hy1 hy2 rfl (by omega) V _ _ rfl HON.out ⟨W'.heap.size, 0, none⟩ 1 1 [.int .i64 bf, .int .i64 bt, .int .i64 bm, .int .i64 br] rfl rfl (World.news_of_block (cs := #[.int .i64 bf, .int .i64 bt, .int .i64 bm, .int .i64 br]) (t := 77) (fr := (0, 0)) (World.alloc_heap_new W' _)) (by simp [Value.oneCell']) (by unfold maxLen; omega) (by omega) (by rw [World.size_alloc]; omega) ?_; intro v' w1 hown hgrow hnil hat; obtain ⟨A3, c3, hv3, _, _⟩ := ownB_rd hown (by simp [bcells, flatl_len bcell_len]; omega); subst hv3; obtain ⟨q1, q2, q3, QQ⟩ := HPN.out w1 _ hown hgrow))
  obtain ⟨k1, k2, k3⟩ := QQ.out
  refine ⟨E1.out ▸ k1, k2, ?_⟩
  show ApI w (List.map (·.1) (pre ++ [_])) _
  rw [List.map_append]
  exact k3
 case done =>
  rintro D ys W' hD rfl ⟨V, i2, i3, i4⟩ hKD
  rw [List.length_map, List.length_attach, List.attach_map_subtype_val] at i3
  obtain ⟨A3, c3, rfl, hrd, _⟩ := ownB_rd i3 (by simp [bcells, flatl_len bcell_len])
  have hc3 : (Dd.bnds f x r).length ≤ c3 := by
   rcases i3.2 with ⟨h, h0⟩ | ⟨g, cap, cur, h, _, _, hn, _⟩
   ·omega
   ·cases h; exact hn
  have cw := (i2.cell 0).trans rfl
  have l2 := i2.lt
  have HRD := Lib.hid hrd
  have HB4 := Lib.hid i4
  have HKD := Lib.hid hKD
  have HC3 := Lib.hid hc3
  clear i2 i3 i4 hrd hKD hc3
  gi_wp2_with (fail)
  refine leaves_one HKD.out (fun w' hw => ?_)
  refine ⟨_, results_tmp rfl _ _ _, A3, c3, rfl, (hw.rdD HKD.out HRD.out (Nat.le_refl _)).more hw.size, HC3.out, ?_⟩
  exact HB4.out.trans (hw.below HB4.out.size (fun j hj e => by omega))
 case stop =>
  rintro D c pre W' hD hpre h hK
  exact h.elim
set_option maxHeartbeats 4000000 in
theorem collect_any (Bf Bc Br B : Nat) (v : Fv) (f : Dd.Fd) (x : Dd.Ca) (r : Int) (he : Dd.callE f x = 0) (w : World) (hY : Yc B Bf Bc Br v f x r w) (hB : B ≤ w.heap.size) (hg : 5 < B) :
  Calls Tryz.prog 35 #[.func (.func 71) #[] #[.pointer (some ⟨Bf, 0, none⟩), .pointer (some ⟨Bc, 0, none⟩), .pointer (some ⟨Br, 0, none⟩)]] w fun e w' =>
   ∃ A c, e = .returned (.slice A (Dd.bnds f x r).length c) ∧ Rd w' w'.heap.size 4 A (Dd.bnds f x r).length (bcells (Dd.bnds f x r)) ∧ (Dd.bnds f x r).length ≤ c ∧ Below w.heap.size w w' := by
 have H := Lib.hid (appendSeq_any Bf Bc Br B v f x r he w hY hB hg)
 clear he hY hB hg
 go_enter Tryz.func35, Tryz.ntmps35
 go_wp2_with fail
 refine H.out.mono ?_
 rintro e w1 ⟨A, c, rfl, hrd, hc, hb⟩
 have HR := Lib.hid hrd
 have HB := Lib.hid hb
 have HC := Lib.hid hc
 clear hrd hb hc H
 go_wp2_with fail
 go_ret
 exact ⟨A, c, rfl, HR.out, HC.out, HB.out⟩
end Go.Proofs.YtcbeefbefapicaaGreatDoor

namespace Go.Proofs.YtcbeefbefapicaaGreatDoor
open Go.RowKit
set_option maxRecDepth 100000
theorem bounds_made (v : Fv) (f : Dd.Fd) (x : Dd.Ca) (r : Int) (w : World) (hF : FRd w w.heap.size v f) (hS : Sn w) :
  Calls Tryz.prog 36 #[fval v f, caval x, .int .i64 r] w fun e w' => e = .returned (.func (.func 71) #[] #[.pointer (some ⟨w.heap.size, 0, none⟩), .pointer (some ⟨w.heap.size + 1, 0, none⟩), .pointer (some ⟨w.heap.size + 1 + 1, 0, none⟩)]) ∧
   Yc w.heap.size w.heap.size (w.heap.size + 1) (w.heap.size + 1 + 1) v f x r w' ∧ Below w.heap.size w w' ∧ w.heap.size + 1 + 1 + 1 ≤ w'.heap.size :=
 (bounds_func v f x r w hF hS).mono fun e w' ⟨he, hy⟩ => ⟨he, ⟨hy.ck.fs.k, hy.ck.kC, hy.kR, hy.ck.fs.r, hy.ck.sn⟩, hy.ck.fs.b, hy.kR.lt⟩
set_option maxHeartbeats 8000000 in
theorem dBounds_any (v : Fv) (f : Dd.Fd) (x : Dd.Ca) (r : Int) (w : World) (hF : FRd w w.heap.size v f) (hS : Sn w) :
  Calls Tryz.prog 17 #[fval v f, caval x, .int .i64 r] w fun ee w' => ∃ A c, ee = .returned (.tuple #[.slice A (Dd.boundsF f x r).1.length c, .int .i64 (Dd.boundsF f x r).2]) ∧ Rd w' w'.heap.size 4 A (Dd.boundsF f x r).1.length (bcells (Dd.boundsF f x r).1) ∧ (Dd.boundsF f x r).1.length ≤ c ∧ Below w.heap.size w w' := by
 have hd : Dd.boundsF f x r = if Dd.callE f x ≠ 0 then ([], Dd.callE f x) else if 0 ≤ r ∧ r ≤ 1000000 then (Dd.bnds f x r, 0) else ([], 1) := rfl
 have S0 := Lib.hid (Ck.new (x := x) hF hS)
 have T0 := Lib.hid (fun V (h : Ck w v f x V) => Ck.tree h)
 have CC := Lib.hid (fun W (h : Ck w v f x W) => dCheckCall_any v f x W h.fs.rd h.sn)
 have BF := Lib.hid (fun W (h : Ck w v f x W) => bounds_made v f x r W h.fs.rd h.sn)
 have BT := dbetween_any 0 r 1000000
 simp only [fval_def, caval_def] at CC BF S0 ⊢
 obtain ⟨E, hE⟩ : ∃ E, Dd.callE f x = E := ⟨_, rfl⟩
 rw [hE] at CC hd
 by_cases h0 : E = 0
 ·subst h0
  rw [if_neg (by simp)] at hd
  by_cases hr : 0 ≤ r ∧ r ≤ 1000000
  ·rw [if_pos hr] at hd
   rw [decide_eq_true hr] at BT
   have HD := Lib.hid hd
   have HBT := Lib.hid BT
   have HE := Lib.hid hE
   rw [HD.out]
   clear hd BT hE hF hS hr
   have P0 := S0.out
   obtain ⟨⟨⟨⟨f0, f1⟩, ⟨f2, f3⟩⟩, ⟨⟨c0, c1⟩, ⟨c2, c3⟩⟩⟩, ⟨⟨⟨c4, c5⟩, ⟨c6, c7⟩⟩, ⟨⟨c8, c9⟩, ⟨c10, ⟨c11, c12⟩⟩⟩⟩⟩ := T0.out _ P0
   clear P0
   go_enter Tryz.func17, Tryz.ntmps17
   go_wp2_with fail
   refine (CC.out _ S0.out).mono ?_
   rintro ee w1 ⟨rfl, hb1⟩
   have S1 := Lib.hid (S0.out.next hb1)
   clear hb1 f0 f1 f2 f3 c0 c1 c2 c3 c4 c5 c6 c7 c8 c9 c10 c11 c12 S0
   obtain ⟨⟨⟨⟨f0, f1⟩, ⟨f2, f3⟩⟩, ⟨⟨c0, c1⟩, ⟨c2, c3⟩⟩⟩, ⟨⟨⟨c4, c5⟩, ⟨c6, c7⟩⟩, ⟨⟨c8, c9⟩, ⟨c10, ⟨c11, c12⟩⟩⟩⟩⟩ := T0.out _ S1.out
   go_wp2_with fail
   refine (HBT.out _).mono ?_
   rintro ee w' ⟨rfl, rfl⟩
   go_wp2_with fail
   refine (BF.out _ S1.out).mono ?_
   rintro ee w2 ⟨rfl, hy2, hb2, hz2⟩
   have S2 := Lib.hid (S1.out.next hb2)
   have HY2 := Lib.hid hy2
   clear hb2 hy2 f0 f1 f2 f3 c0 c1 c2 c3 c4 c5 c6 c7 c8 c9 c10 c11 c12
   have COL := Lib.hid (collect_any w1.heap.size (w1.heap.size + 1) (w1.heap.size + 1 + 1) w1.heap.size v f x r HE.out w2 HY2.out (by omega) (Nat.lt_of_lt_of_le S1.out.sn.1 (Nat.le_refl _)))
   go_wp2_with fail
   refine COL.out.mono ?_
   rintro ee w3 ⟨A, c, rfl, hrd, hc, hb3⟩
   have HR := Lib.hid hrd
   have HC := Lib.hid hc
   have HB := Lib.hid (S2.out.fs.b.trans (hb3.mono S2.out.fs.b.size))
   clear hrd hc hb3
   go_wp2_with fail
   go_ret2
   exact ⟨A, c, rfl, HR.out, HC.out, HB.out⟩
  ·rw [if_neg hr] at hd
   rw [decide_eq_false hr] at BT
   have HD := Lib.hid hd
   have HBT := Lib.hid BT
   rw [HD.out]
   clear hd BT hE hF hS hr
   have P0 := S0.out
   obtain ⟨⟨⟨⟨f0, f1⟩, ⟨f2, f3⟩⟩, ⟨⟨c0, c1⟩, ⟨c2, c3⟩⟩⟩, ⟨⟨⟨c4, c5⟩, ⟨c6, c7⟩⟩, ⟨⟨c8, c9⟩, ⟨c10, ⟨c11, c12⟩⟩⟩⟩⟩ := T0.out _ P0
   clear P0
   go_enter Tryz.func17, Tryz.ntmps17
   go_wp2_with fail
   refine (CC.out _ S0.out).mono ?_
   rintro ee w1 ⟨rfl, hb1⟩
   have S1 := Lib.hid (S0.out.next hb1)
   clear hb1 f0 f1 f2 f3 c0 c1 c2 c3 c4 c5 c6 c7 c8 c9 c10 c11 c12 S0
   go_wp2_with fail
   refine (HBT.out _).mono ?_
   rintro ee w' ⟨rfl, rfl⟩
   go_wp2_with fail
   go_ret2
   exact ⟨none, 0, rfl, Rd.nil _ _ _ _, Nat.le_refl _, S1.out.fs.b⟩
 ·rw [if_pos h0] at hd
  have hne : (E != 0) = true := by simp [h0]
  have HD := Lib.hid hd
  rw [HD.out]
  clear hd BT hE hF hS h0
  have P0 := S0.out
  obtain ⟨⟨⟨⟨f0, f1⟩, ⟨f2, f3⟩⟩, ⟨⟨c0, c1⟩, ⟨c2, c3⟩⟩⟩, ⟨⟨⟨c4, c5⟩, ⟨c6, c7⟩⟩, ⟨⟨c8, c9⟩, ⟨c10, ⟨c11, c12⟩⟩⟩⟩⟩ := T0.out _ P0
  clear P0
  go_enter Tryz.func17, Tryz.ntmps17
  go_wp2_with fail
  refine (CC.out _ S0.out).mono ?_
  rintro ee w1 ⟨rfl, hb1⟩
  have S1 := Lib.hid (S0.out.next hb1)
  clear hb1 f0 f1 f2 f3 c0 c1 c2 c3 c4 c5 c6 c7 c8 c9 c10 c11 c12 S0
  go_wp2_with fail
  go_ret2
  exact ⟨none, 0, rfl, Rd.nil _ _ _ _, Nat.le_refl _, S1.out.fs.b⟩
end Go.Proofs.YtcbeefbefapicaaGreatDoor

namespace Go.Proofs.YtcbeefbefapicaaGreatDoor
open Go.RowKit Go.Shelf
set_option maxRecDepth 100000
attribute [local go_sem] Oper.semAt_some
structure Aw (w : World) (v : Fv) (f : Dd.Fd) (x : Dd.Ca) (A : Option Addr) (c : Nat) (y : List Int) (W : World) : Prop where
 ck : Ck w v f x W
 kY : Bk W (w.heap.size + 1 + 1) 43 #[.slice A y.length c]
 kB : Bk W (w.heap.size + 1 + 1 + 1) 4 #[.bool false]
 kE : Bk W (w.heap.size + 1 + 1 + 1 + 1) 30 #[.int .i64 0]
 rY : Rd W w.heap.size 1 A y.length (icells y)
section
variable {w W W' : World} {v : Fv} {f : Dd.Fd} {x : Dd.Ca} {A : Option Addr} {c : Nat} {y : List Int}
theorem Aw.next (h : Aw w v f x A c y W) (hb : Below W.heap.size W W') : Aw w v f x A c y W' :=
 ⟨h.ck.next hb, h.kY.below hb h.kY.lt, h.kB.below hb h.kB.lt, h.kE.below hb h.kE.lt, h.rY.below hb h.ck.fs.b.size⟩
theorem Aw.new (hF : FRd w w.heap.size v f) (hS : Sn w) (hY : Rd w w.heap.size 1 A y.length (icells y)) : Aw w v f x A c y (((((w.alloc (.cells #[.slice v.a1 f.st.length v.c1, .slice v.a2 f.li.length v.c2, .slice v.a3 f.pa.length v.c3, .slice v.a4 f.va.length v.c4] 27)).alloc (.cells #[.int .u8 x.k, .int .i64 x.l, .int .i64 x.o, .int .i64 x.a, .int .i64 x.b, .int .i64 x.s, .int .i64 x.e, .int .i64 x.c.b, .int .i64 x.c.n, .int .i64 x.c.l, .int .i64 x.c.y, .int .i64 x.c.w, .int .i64 x.c.s] 42)).alloc (.cells #[.slice A y.length c] 43)).alloc (.cells #[.bool false] 4)).alloc (.cells #[.int .i64 0] 30)) := by
 have h := Ck.new (x := x) hF hS
 obtain ⟨w1, h1⟩ : ∃ w1, ((w.alloc (.cells #[.slice v.a1 f.st.length v.c1, .slice v.a2 f.li.length v.c2, .slice v.a3 f.pa.length v.c3, .slice v.a4 f.va.length v.c4] 27)).alloc (.cells #[.int .u8 x.k, .int .i64 x.l, .int .i64 x.o, .int .i64 x.a, .int .i64 x.b, .int .i64 x.s, .int .i64 x.e, .int .i64 x.c.b, .int .i64 x.c.n, .int .i64 x.c.l, .int .i64 x.c.y, .int .i64 x.c.w, .int .i64 x.c.s] 42)) = w1 := ⟨_, rfl⟩
 have z1 : w1.heap.size = w.heap.size + 1 + 1 := by rw [← h1]; simp
 rw [h1] at h ⊢
 clear h1
 have b1 := (Below.refl w1.heap.size w1).alloc (Nat.le_refl _) (.cells #[.slice A y.length c] 43)
 have b2 := b1.alloc b1.size (.cells #[.bool false] 4)
 have b3 := b2.alloc b2.size (.cells #[.int .i64 0] 30)
 have k1 := ((Bk.new w1 43 #[.slice A y.length c]).alloc (.cells #[.bool false] 4)).alloc (.cells #[.int .i64 0] 30)
 have k2 := (Bk.new (w1.alloc (.cells #[.slice A y.length c] 43)) 4 #[.bool false]).alloc (.cells #[.int .i64 0] 30)
 have k3 := Bk.new ((w1.alloc (.cells #[.slice A y.length c] 43)).alloc (.cells #[.bool false] 4)) 30 #[.int .i64 0]
 simp only [World.size_alloc, z1] at k1 k2 k3
 exact ⟨h.next b3, k1, k2, k3, (hY.below h.fs.b (Nat.le_refl _)).below b3 (by omega)⟩
theorem Aw.fin (h : Aw w v f x A c y W) (p : Bool) (q : Int) : ((W.setCell ⟨w.heap.size + 1 + 1 + 1, 0, none⟩ (.bool p)).setCell ⟨w.heap.size + 1 + 1 + 1 + 1, 0, none⟩ (.int .i64 q)).cell? ⟨w.heap.size + 1 + 1 + 1, 0, none⟩ = some (.bool p) ∧
  ((W.setCell ⟨w.heap.size + 1 + 1 + 1, 0, none⟩ (.bool p)).setCell ⟨w.heap.size + 1 + 1 + 1 + 1, 0, none⟩ (.int .i64 q)).cell? ⟨w.heap.size + 1 + 1 + 1 + 1, 0, none⟩ = some (.int .i64 q) ∧
  Below w.heap.size w ((W.setCell ⟨w.heap.size + 1 + 1 + 1, 0, none⟩ (.bool p)).setCell ⟨w.heap.size + 1 + 1 + 1 + 1, 0, none⟩ (.int .i64 q)) ∧
  Bk ((W.setCell ⟨w.heap.size + 1 + 1 + 1, 0, none⟩ (.bool p)).setCell ⟨w.heap.size + 1 + 1 + 1 + 1, 0, none⟩ (.int .i64 q)) (w.heap.size + 1 + 1 + 1) 4 #[.bool p] ∧
  Bk ((W.setCell ⟨w.heap.size + 1 + 1 + 1, 0, none⟩ (.bool p)).setCell ⟨w.heap.size + 1 + 1 + 1 + 1, 0, none⟩ (.int .i64 q)) (w.heap.size + 1 + 1 + 1 + 1) 30 #[.int .i64 q] ∧
  ∀ B, KeepsFrom B W ((W.setCell ⟨w.heap.size + 1 + 1 + 1, 0, none⟩ (.bool p)).setCell ⟨w.heap.size + 1 + 1 + 1 + 1, 0, none⟩ (.int .i64 q)) := by
 have k3 := h.kE.far (p := ⟨w.heap.size + 1 + 1 + 1, 0, none⟩) (by simp) (.bool p)
 have k1 := (h.kB.set 0 (.bool p)).far (p := ⟨w.heap.size + 1 + 1 + 1 + 1, 0, none⟩) (by simp) (.int .i64 q)
 have k2 := (h.kE.far (p := ⟨w.heap.size + 1 + 1 + 1, 0, none⟩) (by simp) (.bool p)).set 0 (.int .i64 q)
 exact ⟨(k1.cell 0).trans rfl, (k2.cell 0).trans rfl, (h.ck.fs.b.setCell (p := ⟨w.heap.size + 1 + 1 + 1, 0, none⟩) (by simp; omega) _).setCell (p := ⟨w.heap.size + 1 + 1 + 1 + 1, 0, none⟩) (by simp; omega) _, k1, k2, fun B => (kf_grown (grown_setCell W ⟨w.heap.size + 1 + 1 + 1, 0, none⟩ (.bool p)) (fun k e => by cases e; exact ⟨_, _, _, h.kB⟩) B).trans (kf_grown (grown_setCell _ ⟨w.heap.size + 1 + 1 + 1 + 1, 0, none⟩ (.int .i64 q)) (fun k e => by cases e; exact ⟨_, _, _, k3⟩) B)⟩
end
set_option maxHeartbeats 8000000 in
theorem dAllows_err (v : Fv) (f : Dd.Fd) (x : Dd.Ca) (A : Option Addr) (c : Nat) (y : List Int) (w : World) (hF : FRd w w.heap.size v f) (hS : Sn w) (hY : Rd w w.heap.size 1 A y.length (icells y)) (hyl : y.length ≤ 1000000) (h0 : Dd.callE f x ≠ 0) :
  Calls Tryz.prog 18 #[fval v f, caval x, .slice A y.length c] w fun ee w' => ee = .returned (.tuple #[.bool false, .int .i64 (Dd.callE f x)]) ∧ Below w.heap.size w w' := by
 have S0 := Lib.hid (Aw.new (x := x) (c := c) hF hS hY)
 have T0 := Lib.hid (fun V (h : Ck w v f x V) => Ck.tree h)
 have CC := Lib.hid (fun W (h : Ck w v f x W) => dCheckCall_any v f x W h.fs.rd h.sn)
 simp only [fval_def, caval_def] at CC S0 ⊢
 obtain ⟨E, hE⟩ : ∃ E, Dd.callE f x = E := ⟨_, rfl⟩
 rw [hE] at CC h0 ⊢
 have hne : (E != 0) = true := by simp [h0]
 clear hE hF hS h0 hY
 have P0 := S0.out
 obtain ⟨⟨⟨⟨f0, f1⟩, ⟨f2, f3⟩⟩, ⟨⟨c0, c1⟩, ⟨c2, c3⟩⟩⟩, ⟨⟨⟨c4, c5⟩, ⟨c6, c7⟩⟩, ⟨⟨c8, c9⟩, ⟨c10, ⟨c11, c12⟩⟩⟩⟩⟩ := T0.out _ P0.ck
 clear P0
 go_enter Tryz.func18, Tryz.ntmps18
 go_wp2_with fail
 refine (CC.out _ S0.out.ck).mono ?_
 rintro ee w1 ⟨rfl, hb1⟩
 have S1 := Lib.hid (S0.out.next hb1)
 clear hb1 f0 f1 f2 f3 c0 c1 c2 c3 c4 c5 c6 c7 c8 c9 c10 c11 c12 S0
 have b0 := (S1.out.kB.cell 0).trans rfl
 have e0 := (S1.out.kE.cell 0).trans rfl
 have bf := S1.out.kB.frozen 0
 have ef := S1.out.kE.frozen 0
 have bl := S1.out.kB.lt
 have el := S1.out.kE.lt
 go_wp2_with fail
 obtain ⟨g1, g2, g3, _⟩ := S1.out.fin false E
 exact bodyPost_ret (v := .tuple #[.bool false, .int .i64 E]) (results_cells2 rfl _ _ _ _ _ _ rfl rfl g1 g2 Tryz.isAgg4 Tryz.isAgg30) rfl ⟨rfl, g3⟩
set_option maxHeartbeats 8000000 in
theorem dAllows_arg (v : Fv) (f : Dd.Fd) (x : Dd.Ca) (A : Option Addr) (c : Nat) (y : List Int) (w : World) (hF : FRd w w.heap.size v f) (hS : Sn w) (hY : Rd w w.heap.size 1 A y.length (icells y)) (hyl : y.length ≤ 1000000) (h0 : Dd.callE f x = 0) (hd : Dd.drw f y = false) :
  Calls Tryz.prog 18 #[fval v f, caval x, .slice A y.length c] w fun ee w' => ee = .returned (.tuple #[.bool false, .int .i64 1]) ∧ Below w.heap.size w w' := by
 have hf0 := (Dd.callE_zero h0).1
 have S0 := Lib.hid (Aw.new (x := x) (c := c) hF hS hY)
 have T0 := Lib.hid (fun V (h : Ck w v f x V) => Ck.tree h)
 have CC := Lib.hid (fun W (h : Ck w v f x W) => dCheckCall_any v f x W h.fs.rd h.sn)
 have DR := Lib.hid (fun W (h : Aw w v f x A c y W) => drawn_any v f A c y W h.ck.fs.rd (h.rY.more h.ck.fs.b.size) hyl hf0)
 simp only [fval_def, caval_def, h0, hd] at CC DR S0 ⊢
 clear hF hS h0 hY hd hf0
 have P0 := S0.out
 obtain ⟨⟨⟨⟨f0, f1⟩, ⟨f2, f3⟩⟩, ⟨⟨c0, c1⟩, ⟨c2, c3⟩⟩⟩, ⟨⟨⟨c4, c5⟩, ⟨c6, c7⟩⟩, ⟨⟨c8, c9⟩, ⟨c10, ⟨c11, c12⟩⟩⟩⟩⟩ := T0.out _ P0.ck
 clear P0
 go_enter Tryz.func18, Tryz.ntmps18
 go_wp2_with fail
 refine (CC.out _ S0.out.ck).mono ?_
 rintro ee w1 ⟨rfl, hb1⟩
 have S1 := Lib.hid (S0.out.next hb1)
 clear hb1 f0 f1 f2 f3 c0 c1 c2 c3 c4 c5 c6 c7 c8 c9 c10 c11 c12 S0
 obtain ⟨⟨⟨⟨f0, f1⟩, ⟨f2, f3⟩⟩, _⟩, _⟩ := T0.out _ S1.out.ck
 have y0 := (S1.out.kY.cell 0).trans rfl
 go_wp2_with fail
 refine (DR.out _ S1.out).mono ?_
 rintro ee w2 ⟨rfl, hb2⟩
 have S2 := Lib.hid (S1.out.next hb2)
 clear hb2 f0 f1 f2 f3 y0 S1
 have b0 := (S2.out.kB.cell 0).trans rfl
 have e0 := (S2.out.kE.cell 0).trans rfl
 have bf := S2.out.kB.frozen 0
 have ef := S2.out.kE.frozen 0
 have bl := S2.out.kB.lt
 have el := S2.out.kE.lt
 go_wp2_with fail
 obtain ⟨g1, g2, g3, _⟩ := S2.out.fin false 1
 exact bodyPost_ret (v := .tuple #[.bool false, .int .i64 1]) (results_cells2 rfl _ _ _ _ _ _ rfl rfl g1 g2 Tryz.isAgg4 Tryz.isAgg30) rfl ⟨rfl, g3⟩
set_option maxHeartbeats 8000000 in
theorem dAllows_yes (v : Fv) (f : Dd.Fd) (x : Dd.Ca) (A : Option Addr) (c : Nat) (y : List Int) (w : World) (hF : FRd w w.heap.size v f) (hS : Sn w) (hY : Rd w w.heap.size 1 A y.length (icells y)) (hyl : y.length ≤ 1000000) (h0 : Dd.callE f x = 0) (hd : Dd.drw f y = true) :
  Calls Tryz.prog 18 #[fval v f, caval x, .slice A y.length c] w fun ee w' => ee = .returned (.tuple #[.bool ((Dd.bnds f x 0).all (Dd.keepsB y)), .int .i64 0]) ∧ Below w.heap.size w w' := by
 have hf0 := (Dd.callE_zero h0).1
 have S0 := Lib.hid (Aw.new (x := x) (c := c) hF hS hY)
 have T0 := Lib.hid (fun V (h : Ck w v f x V) => Ck.tree h)
 have CC := Lib.hid (fun W (h : Ck w v f x W) => dCheckCall_any v f x W h.fs.rd h.sn)
 have DR := Lib.hid (fun W (h : Aw w v f x A c y W) => drawn_any v f A c y W h.ck.fs.rd (h.rY.more h.ck.fs.b.size) hyl hf0)
 have BF := Lib.hid (fun W (h : Ck w v f x W) => bounds_made v f x 0 W h.fs.rd h.sn)
 simp only [fval_def, caval_def, h0, hd] at CC DR BF S0 ⊢
 have HE := Lib.hid h0
 have HD := Lib.hid hd
 clear hF hS h0 hY hd hf0
 have P0 := S0.out
 obtain ⟨⟨⟨⟨f0, f1⟩, ⟨f2, f3⟩⟩, ⟨⟨c0, c1⟩, ⟨c2, c3⟩⟩⟩, ⟨⟨⟨c4, c5⟩, ⟨c6, c7⟩⟩, ⟨⟨c8, c9⟩, ⟨c10, ⟨c11, c12⟩⟩⟩⟩⟩ := T0.out _ P0.ck
 clear P0
 refine (callsIn_wide (n := 3)).1 ?_
 refine callsIn_of_wp_marks Tryz.func18 rfl trivial ?_ rfl
 simp only [Tryz.ntmps18, List.size_toArray, List.length_cons, List.length_nil, Nat.reduceAdd, Nat.reduceSub, Array.replicate_succ, Array.replicate_zero, List.push_toArray, List.append_toArray, List.nil_append, List.cons_append]
 gi_wp2_with (refine ⟨trivial, ?_⟩; gi_at_call 19; refine (callsIn_wide.2 (CC.out _ S0.out.ck)).mono ?_; rintro ee w1 ⟨rfl, hb1⟩; have S1 := Lib.hid (S0.out.next hb1); clear hb1 f0 f1 f2 f3 c0 c1 c2 c3 c4 c5 c6 c7 c8 c9 c10 c11 c12 S0; obtain ⟨⟨⟨⟨f0, f1⟩, ⟨f2, f3⟩⟩, ⟨⟨c0, c1⟩, ⟨c2, c3⟩⟩⟩, ⟨⟨⟨c4, c5⟩, ⟨c6, c7⟩⟩, ⟨⟨c8, c9⟩, ⟨c10, ⟨c11, c12⟩⟩⟩⟩⟩ := T0.out _ S1.out.ck; have y0 := (S1.out.kY.cell 0).trans rfl)
 refine ⟨trivial, ?_⟩
 refine (callsIn_wide.2 (DR.out _ S1.out)).mono ?_
 rintro ee w2 ⟨rfl, hb2⟩
 have S2 := Lib.hid (S1.out.next hb2)
 clear hb2 f0 f1 f2 f3 c0 c1 c2 c3 c4 c5 c6 c7 c8 c9 c10 c11 c12 y0 S1
 obtain ⟨⟨⟨⟨f0, f1⟩, ⟨f2, f3⟩⟩, ⟨⟨c0, c1⟩, ⟨c2, c3⟩⟩⟩, ⟨⟨⟨c4, c5⟩, ⟨c6, c7⟩⟩, ⟨⟨c8, c9⟩, ⟨c10, ⟨c11, c12⟩⟩⟩⟩⟩ := T0.out _ S2.out.ck
 gi_wp2_with (fail)
 refine ⟨trivial, ?_⟩
 refine (callsIn_wide.2 (BF.out _ S2.out.ck)).mono ?_
 rintro ee w3 ⟨rfl, hy3, hb3, hz3⟩
 have S3 := Lib.hid (S2.out.next hb3)
 have h92 := S2.out.ck.sn.1
 have hst := bounds_stops 2 (by omega) w2.heap.size (w2.heap.size + 1) (w2.heap.size + 1 + 1) w3.heap.size w2.heap.size (fun _ => False) v f x 0 HE.out (fun j hj => hj.elim) (fun h => h) (fun h => h) (fun h => h) hb3.size h92 (by omega) (by omega) (by omega) w3 (Nat.le_refl _) hy3
 have HST := Lib.hid hst
 clear hb3 hy3 hst f0 f1 f2 f3 c0 c1 c2 c3 c4 c5 c6 c7 c8 c9 c10 c11 c12
 gi_wp2_with (fail)
 refine wpIn_rangeFunc_ownH (F := Fence.wide) (n := 3) rfl (by omega) (gf := 71) (lb := #[.pointer (some ⟨w2.heap.size, 0, none⟩), .pointer (some ⟨w2.heap.size + 1, 0, none⟩), .pointer (some ⟨w2.heap.size + 1 + 1, 0, none⟩)]) rfl trivial (enters_of Tryz.func71 (by kernel_rfl) rfl)
  HST.out kc_t (kc_b (Nat.le_refl _)) (Below.refl _ _) (fun _ => rfl)
  (fun pre W' => (∀ b ∈ pre, Dd.keepsB y b.1 = true) ∧ Below w3.heap.size w3 W')
  (fun c pre W' => c = .ret ∧ (∃ b ∈ Dd.bnds f x 0, Dd.keepsB y b = false) ∧ Bk W' (w.heap.size + 1 + 1 + 1) 4 #[.bool false] ∧ Bk W' (w.heap.size + 1 + 1 + 1 + 1) 30 #[.int .i64 0] ∧ Below w.heap.size w W')
  (OwnFrom.and (fun _ _ _ _ h _ _ => h) (ownFrom_below (Nat.le_refl _) (Nat.le_refl _)))
  (fun c pre W W' row h hg hr => ⟨h.1, h.2.1, bk_own h.2.2.1 hg (fun r e => (hr r e).2), bk_own h.2.2.2.1 hg (fun r e => (hr r e).2), below_own h.2.2.2.2 S3.out.ck.fs.b.size hg (fun r e => (hr r e).1) h.2.2.2.2.size⟩)
  ⟨(fun b hb => by cases hb), Below.refl _ _⟩
  (fun b a' W' => ∃ Bx, w3.heap.size ≤ Bx ∧ Bk W' Bx 77 #[.int .i64 b.1.f, .int .i64 b.1.t, .int .i64 b.1.m, .int .i64 b.1.r] ∧ a' = { tmps := (Value.agg #[.slice v.a1 f.st.length v.c1, .slice v.a2 f.li.length v.c2, .slice v.a3 f.pa.length v.c3, .slice v.a4 f.va.length v.c4] :: Value.agg #[.int .u8 x.k, .int .i64 x.l, .int .i64 x.o, .int .i64 x.a, .int .i64 x.b, .int .i64 x.s, .int .i64 x.e, .int .i64 x.c.b, .int .i64 x.c.n, .int .i64 x.c.l, .int .i64 x.c.y, .int .i64 x.c.w, .int .i64 x.c.s] :: Value.slice A y.length c :: Value.pointer (some ⟨w.heap.size, 0, none⟩) :: Value.pointer (some ⟨w.heap.size + 1, 0, none⟩) :: Value.pointer (some ⟨w.heap.size + 1 + 1, 0, none⟩) :: Value.pointer (some ⟨w.heap.size + 1 + 1 + 1, 0, none⟩) :: Value.pointer (some ⟨w.heap.size + 1 + 1 + 1 + 1, 0, none⟩) :: Value.int .i64 0 :: Value.pointer (some ⟨Bx, 0, none⟩) :: Value.agg #[.slice v.a1 f.st.length v.c1, .slice v.a2 f.li.length v.c2, .slice v.a3 f.pa.length v.c3, .slice v.a4 f.va.length v.c4] :: Value.agg #[.int .u8 x.k, .int .i64 x.l, .int .i64 x.o, .int .i64 x.a, .int .i64 x.b, .int .i64 x.s, .int .i64 x.e, .int .i64 x.c.b, .int .i64 x.c.n, .int .i64 x.c.l, .int .i64 x.c.y, .int .i64 x.c.w, .int .i64 x.c.s] :: Value.int .i64 0 :: Value.int .i64 0 :: Value.bool false :: undef :: Value.agg #[.slice v.a1 f.st.length v.c1, .slice v.a2 f.li.length v.c2, .slice v.a3 f.pa.length v.c3, .slice v.a4 f.va.length v.c4] :: Value.slice A y.length c :: Value.bool true :: Value.bool false :: Value.agg #[.slice v.a1 f.st.length v.c1, .slice v.a2 f.li.length v.c2, .slice v.a3 f.pa.length v.c3, .slice v.a4 f.va.length v.c4] :: Value.agg #[.int .u8 x.k, .int .i64 x.l, .int .i64 x.o, .int .i64 x.a, .int .i64 x.b, .int .i64 x.s, .int .i64 x.e, .int .i64 x.c.b, .int .i64 x.c.n, .int .i64 x.c.l, .int .i64 x.c.y, .int .i64 x.c.w, .int .i64 x.c.s] :: Value.func (.func 71) #[] #[.pointer (some ⟨w2.heap.size, 0, none⟩), .pointer (some ⟨w2.heap.size + 1, 0, none⟩), .pointer (some ⟨w2.heap.size + 1 + 1, 0, none⟩)] :: Value.agg #[.int .i64 b.1.f, .int .i64 b.1.t, .int .i64 b.1.m, .int .i64 b.1.r] :: undef :: undef :: undef :: undef :: undef :: undef :: undef :: undef :: undef :: undef :: undef :: undef :: undef :: undef :: []).toArray, defers := [] })
  (fun b a' _ X Y row hs hg hr => by obtain ⟨Bx, h1, h2, h5⟩ := hs; exact ⟨Bx, h1, bk_own h2 hg (fun r e => (hr r e).2), h5⟩)
  ?assign ?body ?done ?stop
 case assign =>
  rintro l pre b W' KK ⟨i0, i1⟩ hKK
  rw [show ibv b = #[.agg #[.int .i64 b.1.f, .int .i64 b.1.t, .int .i64 b.1.m, .int .i64 b.1.r]] from rfl]
  have I0 := Lib.hid i0
  have I1 := Lib.hid i1
  have HKK := Lib.hid hKK
  clear i0 i1 hKK
  gi_wp2_with (fail)
  exact HKK.out _ _ ((KeepsOthers.alloc _ _).from _) ((Kc.refl _ _ _).alloc I1.out.size _) ⟨I0.out, I1.out.alloc I1.out.size _⟩ ⟨W'.heap.size, I1.out.size, Bk.new W' _ _, rfl⟩
 case body =>
  rintro l' pre b a' W' hl' ⟨rr, hr⟩ ⟨i0, i1⟩ ⟨Bx, hBx, bX, rfl⟩ hltp
  obtain ⟨⟨bf, bt, bm, br⟩, hb⟩ := b
  have hin := Dd.bnds_in (Dd.callE_zero HE.out).2 0 hb
  have hlen := (Dd.drw_iff.1 HD.out).1
  dsimp only at bX hin ⊢
  obtain ⟨fn, rfl⟩ : ∃ n : Nat, bf = n := ⟨bf.toNat, by omega⟩
  obtain ⟨tn, rfl⟩ : ∃ n : Nat, bt = n := ⟨bt.toNat, by omega⟩
  have hfn : fn < y.length := by omega
  have htn : tn < y.length := by omega
  obtain ⟨vf0, vf1, vf2⟩ := Dd.drw_val HD.out hfn
  obtain ⟨vt0, vt1, vt2⟩ := Dd.drw_val HD.out htn
  have hkb : Dd.keepsB y ⟨(fn : Int), (tn : Int), bm, br⟩ = decide (y[tn] - y[fn] ≤ bm) := by
   unfold Dd.keepsB
   dsimp only
   rw [vf0, vt0]
  have S4 := S3.out.next (i1.mono (Nat.le_refl _))
  obtain ⟨yb, yo, rfl, hyb, hyc⟩ := S4.rY.2 (by omega)
  have y1 := hyc fn (by omega)
  have y2 := hyc tn (by omega)
  rw [show (icells y)[fn]? = some (.int .i64 y[fn]) by simp [icells, hfn]] at y1
  rw [show (icells y)[tn]? = some (.int .i64 y[tn]) by simp [icells, htn]] at y2
  have hybl : yb < W'.heap.size := Nat.lt_of_lt_of_le hyb S4.ck.fs.b.size
  have x0 := (bX.cell 0).trans rfl
  have x1 := (bX.cell 1).trans rfl
  have x2 := (bX.cell 2).trans rfl
  have cy := (S4.kY.cell 0).trans rfl
  have lX := bX.lt
  have lY := S4.kY.lt
  obtain ⟨a, ha⟩ : ∃ a, y[fn] = a := ⟨_, rfl⟩
  obtain ⟨d, hd⟩ : ∃ d, y[tn] = d := ⟨_, rfl⟩
  rw [ha] at y1 hkb vf1 vf2
  rw [hd] at y2 hkb vt1 vt2
  have hw1 : IntKind.i64.wrap (d - a) = d - a := IntWalk.i64_in _ (by omega)
  have hf0 : (0 : Int) ≤ (fn : Int) := Int.natCast_nonneg _
  have ht0 : (0 : Int) ≤ (tn : Int) := Int.natCast_nonneg _
  have hf1 : (fn : Int) < (y.length : Int) := by omega
  have ht1 : (tn : Int) < (y.length : Int) := by omega
  have HS4 := Lib.hid S4
  have I0 := Lib.hid i0
  have I1 := Lib.hid i1
  have b0 := (S4.kB.cell 0).trans rfl
  have e0 := (S4.kE.cell 0).trans rfl
  have bfz := S4.kB.frozen 0
  have efz := S4.kE.frozen 0
  have bl := S4.kB.lt
  have el := S4.kE.lt
  clear hyc S4 i0 i1 bX vf0 vt0 ha hd hlen hin
  by_cases hle : d - a ≤ bm
  ·rw [decide_eq_true hle] at hkb
   have hgt : decide (d - a > bm) = false := decide_eq_false (by omega)
   have HKB := Lib.hid hkb
   clear hkb hle
   gi_wp2_with (fail)
   refine wpIn_region_quiet_round (F := Fence.wide) rfl (by kernel_rfl) (by kernel_rfl) (by kernel_rfl) ?_
   repeat (gi_big_quiet_step (fail))
   refine wpQuietIn_nil ?_
   intro _ hw'
   obtain ⟨nq1, hw''⟩ := hw'
   subst hw''
   gi_wp2_with (fail)
   refine ⟨⟨Nat.le_refl _, fun _ _ _ h _ => h⟩, (Kc.refl _ _ _).drewN _, ?_, below_drewN I1.out _⟩
   intro z hz
   rcases List.mem_append.1 hz with hz | hz
   ·exact I0.out z hz
   ·rw [List.mem_singleton] at hz
    rw [hz]
    exact HKB.out
  ·rw [decide_eq_false hle] at hkb
   have hgt : decide (d - a > bm) = true := decide_eq_true (by omega)
   have HKB := Lib.hid hkb
   clear hkb hle
   gi_wp2_with (fail)
   refine wpIn_region_quiet_round (F := Fence.wide) rfl (by kernel_rfl) (by kernel_rfl) (by kernel_rfl) ?_
   repeat (gi_big_quiet_step (fail))
   refine wpQuietIn_nil ?_
   intro _ hw'
   obtain ⟨nq1, hw''⟩ := hw'
   subst hw''
   gi_wp2_with (fail)
   obtain ⟨_, _, g3, g4, g5, g6⟩ := (HS4.out.next (below_drewN (Below.refl _ _) nq1)).fin false 0
   exact ⟨(show KeepsFrom w3.heap.size W' (W'.drewN nq1) from ⟨Nat.le_refl _, fun _ _ _ h _ => h⟩).trans (g6 _), rfl, ⟨_, hb, HKB.out⟩, g4, g5, g3⟩
 case done =>
  rintro D ys W' hD rfl ⟨i0, i1⟩ hKD
  have S4 := S3.out.next (i1.mono (Nat.le_refl _))
  have hall : (Dd.bnds f x 0).all (Dd.keepsB y) = true := List.all_eq_true.2 fun b hb => i0 ⟨b, hb⟩ (List.mem_attach _ _)
  have HALL := Lib.hid hall
  have HS4 := Lib.hid S4
  have HKD := Lib.hid hKD
  have b0 := (S4.kB.cell 0).trans rfl
  have e0 := (S4.kE.cell 0).trans rfl
  have bfz := S4.kB.frozen 0
  have efz := S4.kE.frozen 0
  have bl := S4.kB.lt
  have el := S4.kE.lt
  clear S4 i0 i1 hKD hall
  gi_wp2_with (fail)
  obtain ⟨_, _, g3, g4, g5, g6⟩ := HS4.out.fin true 0
  have hkd := ((g6 w3.heap.size).same D _ hD HKD.out rfl)
  have g4l := g4.lt
  have g5l := g5.lt
  have hz3 := S3.out.kE.lt
  refine leaves_one hkd (fun w' hw => ?_)
  refine ⟨_, results_cells2 rfl _ _ (w.heap.size + 1 + 1 + 1) (w.heap.size + 1 + 1 + 1 + 1) _ _ rfl rfl (((hw.bk g4 g4l (by omega)).cell 0).trans rfl) (((hw.bk g5 g5l (by omega)).cell 0).trans rfl) Tryz.isAgg4 Tryz.isAgg30, by rw [HALL.out]; rfl, ?_⟩
  exact g3.trans (hw.below g3.size (fun j hj e => by omega))
 case stop =>
  rintro D cc pre W' hD hpre ⟨rfl, ⟨b, hb, hkb⟩, k1, k2, hB4⟩ hKD
  have hall : (Dd.bnds f x 0).all (Dd.keepsB y) = false := by
   rw [← Bool.not_eq_true, List.all_eq_true]
   intro h
   rw [h b hb] at hkb
   cases hkb
  have HALL := Lib.hid hall
  have HKD := Lib.hid hKD
  have K1 := Lib.hid k1
  have K2 := Lib.hid k2
  have HB4 := Lib.hid hB4
  have hz3 := S3.out.kE.lt
  have l1 := k1.lt
  have l2 := k2.lt
  clear hKD k1 k2 hB4 hall hkb hb
  gi_wp2_with (fail)
  refine leaves_one HKD.out (fun w' hw => ?_)
  refine ⟨_, results_cells2 rfl _ _ (w.heap.size + 1 + 1 + 1) (w.heap.size + 1 + 1 + 1 + 1) _ _ rfl rfl (((hw.bk K1.out l1 (by omega)).cell 0).trans rfl) (((hw.bk K2.out l2 (by omega)).cell 0).trans rfl) Tryz.isAgg4 Tryz.isAgg30, by rw [HALL.out]; rfl, ?_⟩
  exact HB4.out.trans (hw.below HB4.out.size (fun j hj e => by omega))
theorem dAllows_any (v : Fv) (f : Dd.Fd) (x : Dd.Ca) (A : Option Addr) (c : Nat) (y : List Int) (w : World) (hF : FRd w w.heap.size v f) (hS : Sn w) (hY : Rd w w.heap.size 1 A y.length (icells y)) (hyl : y.length ≤ 1000000) :
  Calls Tryz.prog 18 #[fval v f, caval x, .slice A y.length c] w fun ee w' => ee = .returned (.tuple #[.bool (Dd.allowsF f x y).1, .int .i64 (Dd.allowsF f x y).2]) ∧ Below w.heap.size w w' := by
 unfold Dd.allowsF
 by_cases h0 : Dd.callE f x = 0
 ·rw [if_neg (by simpa using h0)]
  by_cases hd : Dd.drw f y = true
  ·rw [if_pos hd]
   exact dAllows_yes v f x A c y w hF hS hY hyl h0 hd
  ·rw [if_neg hd]
   exact dAllows_arg v f x A c y w hF hS hY hyl h0 (by simpa using hd)
 ·rw [if_pos h0]
  exact dAllows_err v f x A c y w hF hS hY hyl h0
end Go.Proofs.YtcbeefbefapicaaGreatDoor
