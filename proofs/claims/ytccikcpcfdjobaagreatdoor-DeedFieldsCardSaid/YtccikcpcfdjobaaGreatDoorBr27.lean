/-
  What the claims of layer deed need of the texts DBs, DAs, DBo.
-/
import Derived.Test.YtccikcpcfdjobaaGreatDoorBr26
import Derived.Test.YtccikcpcfdjobaaGreatDoorBr04
import Derived.Test.YtccikcpcfdjobaaGreatDoorBr06
import Derived.Test.YtccikcpcfdjobaaGreatDoorBr08
import Derived.Test.YtccikcpcfdjobaaGreatDoorBr17
import Derived.Test.YtccikcpcfdjobaaGreatDoorBz
set_option linter.unusedVariables false
set_option linter.unusedSimpArgs false
set_option maxHeartbeats 8000000
set_option maxRecDepth 100000
namespace Go.Proofs.YtccikcpcfdjobaaGreatDoor
section
open Go.RowKit Go.Shelf
attribute [local go_sem] Oper.semAt_some
structure Yc (B Bf Bc Br : Nat) (v : Fv) (f : Dd.Fd) (x : Dd.Ca) (r : Int) (W : World) : Prop where
 kF : Bk W Bf 27 #[.slice v.a1 f.st.length v.c1, .slice v.a2 f.li.length v.c2, .slice v.a3 f.pa.length v.c3, .slice v.a4 f.va.length v.c4]
 kC : Bk W Bc 48 #[.int .u8 x.k, .int .i64 x.l, .int .i64 x.o, .int .i64 x.a, .int .i64 x.b, .int .i64 x.s, .int .i64 x.e, .int .i64 x.c.b, .int .i64 x.c.n, .int .i64 x.c.l, .int .i64 x.c.y, .int .i64 x.c.w, .int .i64 x.c.s]
 kR : Bk W Br 3 #[.int .i64 r]
 rd : FRd W B v f
 sn : Sn W
theorem Yc.below {B Bf Bc Br C : Nat} {v : Fv} {f : Dd.Fd} {x : Dd.Ca} {r : Int} {W W' : World} (h : Yc B Bf Bc Br v f x r W) (hb : Below C W W') (h1 : Bf < C) (h2 : Bc < C) (h3 : Br < C) (hB : B ≤ C) (hg : 8 < C) : Yc B Bf Bc Br v f x r W' :=
 ⟨h.kF.below hb h1, h.kC.below hb h2, h.kR.below hb h3, h.rd.below hb hB, h.sn.below hb hg⟩
def ibv {f : Dd.Fd} {x : Dd.Ca} {r : Int} (b : Dd.Ib f x r) : Array Value := #[bval b.1]
theorem bounds1_in (n : Nat) (hn : 1 ≤ n) (l Bf Bc Br M B : Nat) (X : Nat → Prop) (v : Fv) (f : Dd.Fd) (x : Dd.Ca) (r : Int) (he : Dd.callE f x = 0)
  (hX : ∀ j, X j → B ≤ j ∧ j < M) (h1 : ¬ X Bf) (h2 : ¬ X Bc) (h3 : ¬ X Br) (hB : B ≤ M) (hg : 8 < B) (h4 : Bf < M) (h5 : Bc < M) (h6 : Br < M) (J Jx : List (Dd.Ib f x r) → World → Prop) (W : World) (hM : M ≤ W.heap.size) (hJ : AbidesFrom W.heap.size J)
  (hY : ∀ pre y W, J pre W → pre.length < (Dd.bnds f x r).length → YieldAt Fence.wide (n - 1) Tryz.prog l (ibv y) W fun e W' =>
   (e = .returned (.bool true) ∧ J (pre ++ [y]) W' ∧ Kc M X W W') ∨ (e = .returned (.bool false) ∧ Jx (pre ++ [y]) W'))
  (hW : Yc B Bf Bc Br v f x r W) (h0 : J [] W) :
  CallsIn Fence.wide n Tryz.prog 108 #[.func (.yield l) #[] #[], .pointer (some ⟨Bf, 0, none⟩), .pointer (some ⟨Bc, 0, none⟩), .pointer (some ⟨Br, 0, none⟩)] W fun e W' => (∃ v, e = .returned v) ∧
   ((∃ ys, ys = (Dd.bnds f x r).attach ∧ J ys W') ∨ (∃ pre, pre <+: (Dd.bnds f x r).attach ∧ Jx pre W')) := by
 have g0 := fun w hF hS => gaps_any v f x w hF hS he
 have f0 := (hW.kF.cell 0).trans rfl
 have f1 := (hW.kF.cell 1).trans rfl
 have f2 := (hW.kF.cell 2).trans rfl
 have f3 := (hW.kF.cell 3).trans rfl
 have c0 := (hW.kC.cell 0).trans rfl
 have c1 := (hW.kC.cell 1).trans rfl
 have c2 := (hW.kC.cell 2).trans rfl
 have c3 := (hW.kC.cell 3).trans rfl
 have c4 := (hW.kC.cell 4).trans rfl
 have c5 := (hW.kC.cell 5).trans rfl
 have c6 := (hW.kC.cell 6).trans rfl
 have c7 := (hW.kC.cell 7).trans rfl
 have c8 := (hW.kC.cell 8).trans rfl
 have c9 := (hW.kC.cell 9).trans rfl
 have c10 := (hW.kC.cell 10).trans rfl
 have c11 := (hW.kC.cell 11).trans rfl
 have c12 := (hW.kC.cell 12).trans rfl
 simp only [fval_def, caval_def] at g0
 have G0 := jQ g0
 have HW := jQ hW
 have HJ := jQ hJ
 have HY := jQ hY
 have HX := jQ hX
 have HE := jQ he
 clear g0 hW hJ hY hX he
 refine callsIn_of_wp Tryz.func108 rfl trivial ?_ rfl
 simp only [Tryz.ntmps108, List.size_toArray, List.length_cons, List.length_nil, Nat.reduceAdd, Nat.reduceSub, Array.replicate_succ, Array.replicate_zero, List.push_toArray, List.append_toArray, List.nil_append, List.cons_append]
 gi_wp2_with (refine ⟨trivial, ?_⟩; gi_at_call 109; refine (callsIn_wide.2 (G0.o _ (HW.o.rd.more (Nat.le_trans hB hM)) HW.o.sn)).mono ?_; rintro e w1 ⟨A, c, rfl, hrd, hb, hfr⟩)
 have hJ1 : J [] w1 := HJ.o _ _ _ none h0 ⟨hb.os, hb.tape, hb.output, hb.size, fun k hk _ => hb.block k hk⟩ (fun r e => by cases e)
 have hK1 : Kc M X W w1 := Kc.of_below hb hM
 have hgl := Dd.gaps_len HE.o
 have hl1 := HW.o.rd.l1
 have hMw := Nat.le_trans hM hb.size
 have hz := hb.size
 have HRD := jQ hrd
 have HFR := jQ hfr
 have HB := jQ hb
 clear f0 f1 f2 f3 c0 c1 c2 c3 c4 c5 c6 c7 c8 c9 c10 c11 c12 hrd hfr hb h0
 gi_loopw [11] (fun i wr => ∃ k : Nat, k ≤ (Dd.gapsF f x).length ∧ i = .int .i64 k ∧ J ((Dd.bnds f x r).attach.take (2 * k)) wr ∧ Kc M X w1 wr) (fun i _ => (Dd.gapsF f x).length - (intOf i).toNat)
 case atStart => exact ⟨0, Nat.zero_le _, rfl, by simpa using hJ1, Kc.refl _ _ _⟩
 case round =>
  obtain ⟨k, hk, rfl, hJs, hK⟩ := hrel
  by_cases hlt : k < (Dd.gapsF f x).length
  ·obtain ⟨b, off, rfl, hbl, e0, e1, e2, e3⟩ := (hK.rd HRD.o HFR.o).gap hlt
   have hlo := Dd.gaps_low HE.o (List.getElem_mem hlt)
   have hbn := Dd.bnds_len f x r
   obtain ⟨⟨p, q, lo, hi⟩, hgg⟩ : ∃ g, (Dd.gapsF f x)[k] = g := ⟨_, rfl⟩
   obtain ⟨m1, m2, t1, t2⟩ := Dd.bnds_of f x r hlt hgg
   simp only [hgg] at e0 e1 e2 e3 hlo
   clear hgg
   have hwz : w1.heap.size ≤ wr.heap.size := hK.kx.size
   have hbw : b < wr.heap.size := Nat.lt_of_lt_of_le hbl hwz
   have kR := (hK1.trans hK).bk HW.o.kR h6 h3
   have r0 := (kR.cell 0).trans rfl
   have hRl : Br < wr.heap.size := kR.lt
   have hJ2 : J ((Dd.bnds f x r).attach.take (2 * k)) (wr.alloc (.cells #[.int .i64 p, .int .i64 q, .int .i64 lo, .int .i64 hi] 143)) := HJ.o _ _ _ none hJs (World.grownBy_alloc wr _ none) (fun r e => by cases e)
   have hK2 := hK.alloc (Nat.le_trans hMw hwz) (.cells #[.int .i64 p, .int .i64 q, .int .i64 lo, .int .i64 hi] 143)
   have kG := Bk.new wr 143 #[.int .i64 p, .int .i64 q, .int .i64 lo, .int .i64 hi]
   obtain ⟨fn, tmps, assign, body, hy, hR⟩ := HY.o _ ⟨_, m1⟩ _ hJ2 (by simp; omega)
   rw [t1] at hR
   dsimp only [ibv, bval] at hy
   have HK2 := jQ hK2
   have KG := jQ kG
   have T2 := jQ t2
   clear hJs hK hJ2 hK2 kG t1 t2 kR
   gi_wp2_with (fail)
   refine hR.mono ?_
   clear hR hy
   rintro e W3 (⟨rfl, hJ3, hk3⟩ | ⟨rfl, hx3⟩)
   ·have hK3 := HK2.o.trans hk3
    have kG3 := hk3.bkG KG.o
    have g0 := (kG3.cell 0).trans rfl
    have g1 := (kG3.cell 1).trans rfl
    have g2 := (kG3.cell 2).trans rfl
    have hGl := kG3.lt
    have r3 := (((hK1.trans hK3).bk HW.o.kR h6 h3).cell 0).trans rfl
    have hRl3 := ((hK1.trans hK3).bk HW.o.kR h6 h3).lt
    have hwn : IntKind.i64.wrap (-lo) = -lo := IntWalk.i64_in _ (by omega)
    obtain ⟨fn2, tmps2, assign2, body2, hy2, hR2⟩ := HY.o _ ⟨_, m2⟩ _ hJ3 (by simp; omega)
    rw [T2.o] at hR2
    dsimp only [ibv, bval] at hy2
    have HK3 := jQ hK3
    clear hJ3 hk3 hK3 kG3
    gi_wp2_with (fail)
    refine hR2.mono ?_
    clear hR2 hy2
    rintro e W4 (⟨rfl, hJ4, hk4⟩ | ⟨rfl, hx4⟩)
    ·have HK4 := jQ (HK3.o.trans hk4)
     have HJ4 := jQ hJ4
     clear hk4 hJ4
     gi_wp2_with (fail)
     go_roundw
     case rel => exact ⟨k + 1, by omega, by simp, HJ4.o, HK4.o⟩
     case measure => simp [intOf]; omega
    ·have HX4 := jQ hx4
     clear hx4
     gi_wp2_with (fail)
     refine bodyPost_ret (results_none rfl _ _ _) rfl ?_
     exact ⟨⟨_, rfl⟩, .inr ⟨_, List.take_prefix _ _, HX4.o⟩⟩
   ·have HX3 := jQ hx3
    clear hx3
    gi_wp2_with (fail)
    refine ⟨fun _ h => (by cases h), ?_⟩
    gi_wp2_with (fail)
    refine bodyPost_ret (results_none rfl _ _ _) rfl ?_
    exact ⟨⟨_, rfl⟩, .inr ⟨_, List.take_prefix _ _, HX3.o⟩⟩
  ·obtain rfl : k = (Dd.gapsF f x).length := by omega
   have hbn := Dd.bnds_len f x r
   have HJ5 := jQ hJs
   have HBN := jQ hbn
   clear hJs hbn
   gi_wp2_with (fail)
   go_end0
   exact ⟨⟨_, rfl⟩, .inl ⟨_, by rw [List.take_of_length_le (by simp [HBN.o])], HJ5.o⟩⟩
theorem bounds_stops (n : Nat) (hn : 1 ≤ n) (Bf Bc Br M B : Nat) (X : Nat → Prop) (v : Fv) (f : Dd.Fd) (x : Dd.Ca) (r : Int) (he : Dd.callE f x = 0)
  (hX : ∀ j, X j → B ≤ j ∧ j < M) (h1 : ¬ X Bf) (h2 : ¬ X Bc) (h3 : ¬ X Br) (hB : B ≤ M) (hg : 8 < B) (h4 : Bf < M) (h5 : Bc < M) (h6 : Br < M) (w : World) (hM : M ≤ w.heap.size) (hW : Yc B Bf Bc Br v f x r w) :
  SeqStopsK Fence.wide n Tryz.prog 108 #[.pointer (some ⟨Bf, 0, none⟩), .pointer (some ⟨Bc, 0, none⟩), .pointer (some ⟨Br, 0, none⟩)] (fun b : Dd.Ib f x r => ibv b) (Kc M X) (fun ys => ys = (Dd.bnds f x r).attach) (fun pre => pre <+: (Dd.bnds f x r).attach) (Dd.bnds f x r).length w :=
 fun l J Jx W hb hJ _ hY h0 => bounds1_in n hn l Bf Bc Br M B X v f x r he hX h1 h2 h3 hB hg h4 h5 h6 J Jx W (Nat.le_trans hM hb.size) hJ hY (hW.below hb (by omega) (by omega) (by omega) (by omega) (by omega)) h0
end

section
open Go.RowKit Go.Shelf
attribute [local go_sem] Oper.semAt_some
def ApI (w : World) (pre : List Dd.Bd) (W : World) : Prop :=
 ∃ V, Bk W w.heap.size 52 #[V] ∧ W.ownsRow (w.heap.size + 1) 78 4 V pre.length (bcells pre) ∧ Below w.heap.size w W
theorem apI_own {w : World} {f : Dd.Fd} {x : Dd.Ca} {r : Int} {B : Nat} (hB : w.heap.size ≤ B) : OwnFrom B (fun (pre : List (Dd.Ib f x r)) W => ApI w (pre.map (·.1)) W) := by
 rintro pre W W' row ⟨v, h2, h3, h4⟩ hg hr
 exact ⟨v, bk_own h2 hg (fun r e => (hr r e).2), own_cells h3 hg (fun r e => (hr r e).2), below_own h4 hB hg (fun r e => (hr r e).1) h4.size⟩
theorem apI_step {w W w1 : World} {V V' : Value} {pre : List Dd.Bd} {b : Dd.Bd} (i2 : Bk W w.heap.size 52 #[V]) (i3 : W.ownsRow (w.heap.size + 1) 78 4 V pre.length (bcells pre)) (i4 : Below w.heap.size w W)
  (hown : w1.ownsRow (w.heap.size + 1) 78 4 V' (pre.length + 1) (bcells pre ++ bcell b)) (hg : (W.alloc (.cells (bcell b).toArray 78)).grownBy w1 V.ownBlock) :
  w1.cell? ⟨w.heap.size, 0, none⟩ = some V ∧ w1.frozen? ⟨w.heap.size, 0, none⟩ = false ∧ w.heap.size < w1.heap.size ∧
  jP (KeepsFrom (w.heap.size + 1) W (w1.setCell ⟨w.heap.size, 0, none⟩ V') ∧ Kc (w.heap.size + 1) (fun j => j = w.heap.size) W (w1.setCell ⟨w.heap.size, 0, none⟩ V') ∧ ApI w (pre ++ [b]) (w1.setCell ⟨w.heap.size, 0, none⟩ V')) := by
 have n2 : some w.heap.size ≠ V.ownBlock := fun e => by have := (i3.lt _ e.symm).1; omega
 have j2 := i2.alloc (.cells (bcell b).toArray 78)
 have j3 := i3.alloc (.cells (bcell b).toArray 78)
 have a2 := j2.grown hg n2
 have hl := i2.lt
 refine ⟨(a2.cell 0).trans rfl, a2.frozen 0, a2.lt, Lib.hid ⟨?_, ?_, V', a2.set 0 _, ?_, ?_⟩⟩
 ·exact (((KeepsOthers.alloc W (.cells (bcell b).toArray 78)).from _).trans (kf_own j3 hg _)).trans (kf_grown (grown_setCell w1 ⟨w.heap.size, 0, none⟩ V') (fun k e => by cases e; exact ⟨_, _, _, a2⟩) _)
 ·exact (((Kc.refl (w.heap.size + 1) (fun j => j = w.heap.size) W).alloc (by omega) _).trans (Kc.own j3 hg (by rw [World.size_alloc]; omega) (Nat.le_refl _) (by decide))).setBk a2 (by decide) (fun _ => rfl) 0 V'
 ·rw [List.length_append, show bcells (pre ++ [b]) = bcells pre ++ bcell b by simp [bcells]]
  exact own_set hown (Nat.lt_succ_self _) V'
 ·exact ((i4.alloc i4.size _).grown hg (by rw [World.size_alloc]; have := i4.size; omega) (fun k hk => by have := (j3.lt k hk).1; omega)).setCell (Nat.le_refl _) _
theorem appendSeq_any (Bf Bc Br B : Nat) (v : Fv) (f : Dd.Fd) (x : Dd.Ca) (r : Int) (he : Dd.callE f x = 0) (w : World) (hY : Yc B Bf Bc Br v f x r w) (hB : B ≤ w.heap.size) (hg : 8 < B) :
  Calls Tryz.prog 111 #[.slice none 0 0, .func (.func 108) #[] #[.pointer (some ⟨Bf, 0, none⟩), .pointer (some ⟨Bc, 0, none⟩), .pointer (some ⟨Br, 0, none⟩)]] w fun e w' =>
   ∃ A c, e = .returned (.slice A (Dd.bnds f x r).length c) ∧ Rd w' w'.heap.size 4 A (Dd.bnds f x r).length (bcells (Dd.bnds f x r)) ∧ (Dd.bnds f x r).length ≤ c ∧ Below w.heap.size w w' := by
 obtain ⟨i0, hi0, hy0, hy1, hy2⟩ := info_parts infoB
 have hlF := hY.kF.lt
 have hlC := hY.kC.lt
 have hlR := hY.kR.lt
 have hlen := Dd.bnds_len f x r
 have hgl := Dd.gaps_len he
 have hl1 := hY.rd.l1
 have hB0 := (Below.refl w.heap.size w).alloc (Nat.le_refl _) (.cells #[.slice none 0 0] 52)
 have k0 := Bk.new w 52 #[.slice none 0 0]
 have e0 : (w.alloc (.cells #[.slice none 0 0] 52)).heap.size = w.heap.size + 1 := World.size_alloc _ _
 have y0 := hY.below hB0 hlF hlC hlR hB (by omega)
 have hst := fun W (hM : w.heap.size + 1 ≤ W.heap.size) h => bounds_stops 2 (by omega) Bf Bc Br (w.heap.size + 1) B (fun j => j = w.heap.size) v f x r he (fun j hj => by omega) (by omega) (by omega) (by omega) (by omega) hg (by omega) (by omega) (by omega) W hM h
 have HST := jQ hst
 have HLEN := jQ hlen
 clear hst hlen hY
 refine (callsIn_wide (n := 3)).1 ?_
 refine callsIn_of_wp_marks Tryz.func111 rfl trivial ?_ rfl
 simp only [Tryz.ntmps111, List.size_toArray, List.length_cons, List.length_nil, Nat.reduceAdd, Nat.reduceSub, Array.replicate_succ, Array.replicate_zero, List.push_toArray, List.append_toArray, List.nil_append, List.cons_append]
 gi_wp2_with (fail)
 obtain ⟨W0, hW0⟩ : ∃ W0, (w.alloc (.cells #[.slice none 0 0] 52)) = W0 := ⟨_, rfl⟩
 rw [hW0] at k0 hB0 e0 y0 ⊢
 clear hW0
 have hz0 : W0.heap.size ≤ w.heap.size + 1 := by omega
 have hz1 : w.heap.size + 1 ≤ W0.heap.size := by omega
 have e1 : w.heap.size + 1 = W0.heap.size := e0.symm
 have E1 := jQ e1
 clear e0 e1
 refine wpIn_rangeFunc_ownH (F := Fence.wide) (n := 3) rfl (by omega) (gf := 108) (lb := #[.pointer (some ⟨Bf, 0, none⟩), .pointer (some ⟨Bc, 0, none⟩), .pointer (some ⟨Br, 0, none⟩)]) rfl trivial (enters_of Tryz.func108 (by kernel_rfl) rfl)
  (HST.o W0 hz1 y0) kc_t (kc_b hz1) (Below.refl _ _) (fun _ => rfl)
  (fun pre W' => ApI w (pre.map (·.1)) W')
  (fun _ _ _ => False)
  (apI_own (by omega))
  (fun _ _ _ _ _ h _ _ => h)
  ⟨.slice none 0 0, k0, World.ownsRow_nil _ _ _ _, hB0⟩
  (fun b a' W' => ∃ Bx, w.heap.size + 1 ≤ Bx ∧ Bk W' Bx 78 #[.int .i64 b.1.f, .int .i64 b.1.t, .int .i64 b.1.m, .int .i64 b.1.r] ∧ (∃ V, Bk W' w.heap.size 52 #[V] ∧ V.ownBlock ≠ some Bx) ∧ a' = { tmps := #[.slice none 0 0, .func (.func 108) #[] #[.pointer (some ⟨Bf, 0, none⟩), .pointer (some ⟨Bc, 0, none⟩), .pointer (some ⟨Br, 0, none⟩)], .pointer (some ⟨w.heap.size, 0, none⟩), undef, .slice none 0 0, .pointer (some ⟨Bx, 0, none⟩), .func (.func 108) #[] #[.pointer (some ⟨Bf, 0, none⟩), .pointer (some ⟨Bc, 0, none⟩), .pointer (some ⟨Br, 0, none⟩)], .agg #[.int .i64 b.1.f, .int .i64 b.1.t, .int .i64 b.1.m, .int .i64 b.1.r], undef, undef, undef, undef, undef], defers := [] })
  (fun b a' _ X Y row hs hg hr => by obtain ⟨Bx, h1, h2, ⟨V, h3, h4⟩, h5⟩ := hs; exact ⟨Bx, h1, bk_own h2 hg (fun r e => (hr r e).2), ⟨V, bk_own h3 hg (fun r e => (hr r e).2), h4⟩, h5⟩)
  ?assign ?body ?done ?stop
 case assign =>
  rintro l pre b W' KK i1 hKK
  rw [show ibv b = #[.agg #[.int .i64 b.1.f, .int .i64 b.1.t, .int .i64 b.1.m, .int .i64 b.1.r]] from rfl]
  have I1 := jQ i1
  have HKK := jQ hKK
  clear i1 hKK
  gi_wp2_with (fail)
  obtain ⟨V, q2, q3, q4⟩ := I1.o
  have hl := q2.lt
  refine HKK.o _ _ ((KeepsOthers.alloc _ _).from _) ((Kc.refl _ _ _).alloc (by omega) _) ⟨V, q2.alloc _, q3.alloc _, q4.alloc q4.size _⟩ ⟨W'.heap.size, by omega, Bk.new W' _ _, ⟨V, q2.alloc _, fun e => by have := (q3.lt _ e).2; omega⟩, rfl⟩
 case body =>
  rintro l' pre b a' W' hl' ⟨rr, hr⟩ ⟨V, i2, i3, i4⟩ ⟨Bx, hBx, bX, ⟨V', j2, j3⟩, rfl⟩ hltp
  rw [List.length_map] at i3
  obtain ⟨⟨bf, bt, bm, br⟩, hb⟩ := b
  dsimp only at bX
  have x0 := (bX.cell 0).trans rfl
  have x1 := (bX.cell 1).trans rfl
  have x2 := (bX.cell 2).trans rfl
  have x3 := (bX.cell 3).trans rfl
  have cw := (i2.cell 0).trans rfl
  have lX := bX.lt
  have l2 := i2.lt
  have hpn := fun w1 v' h1 h2 => apI_step (b := ⟨bf, bt, bm, br⟩) i2 (by rw [List.length_map]; exact i3) i4 (w1 := w1) (V' := v') h1 h2
  have hmap : (pre ++ [(⟨⟨bf, bt, bm, br⟩, hb⟩ : Dd.Ib f x r)]).map (·.1) = pre.map (·.1) ++ [⟨bf, bt, bm, br⟩] := by simp
  have hcl : (pre.map (·.1)).length + 1 = pre.length + 1 := by simp
  rw [hcl] at hpn
  have HM := jQ hmap
  have hOn := i3.alloc (.cells #[.int .i64 bf, .int .i64 bt, .int .i64 bm, .int .i64 br] 78)
  have hb47 : pre.length + 1 ≤ 10000000 := by have := HLEN.o; omega
  have HPN := jQ hpn
  have HON := jQ hOn
  clear i2 i3 i4 bX j2 j3 hpn hcl hmap hOn hltp
  gi_wp2_with (first
   | (refine wpListIn_append_own_at _ rfl _ _ 52 rfl (w.heap.size + 1) 78 i0 _ 4 32 Tryz.underlying52 hi0 hy0 hy1 hy2 rfl (by omega) V _ _ rfl HON.o ⟨W'.heap.size, 0, none⟩ 1 1 [.int .i64 bf, .int .i64 bt, .int .i64 bm, .int .i64 br] rfl rfl (World.news_of_block (cs := #[.int .i64 bf, .int .i64 bt, .int .i64 bm, .int .i64 br]) (t := 78) (fr := (0, 0)) (World.alloc_heap_new W' _)) (by simp [Value.oneCell']) (by unfold maxLen; omega) (by omega) (by rw [World.size_alloc]; omega) ?_; intro v' w1 hown hgrow hnil hat; obtain ⟨A3, c3, hv3, _, _⟩ := ownB_rd hown (by simp [bcells, flatl_len bcell_len]; omega); subst hv3; obtain ⟨q1, q2, q3, QQ⟩ := HPN.o w1 _ hown hgrow))
  obtain ⟨k1, k2, k3⟩ := QQ.o
  refine ⟨E1.o ▸ k1, k2, ?_⟩
  show ApI w (List.map (·.1) (pre ++ [_])) _
  rw [List.map_append]
  exact k3
 case done =>
  rintro D ys W' hD rfl ⟨V, i2, i3, i4⟩ hKD
  rw [List.length_map, List.length_attach, List.attach_map_subtype_val] at i3
  obtain ⟨A3, c3, rfl, hrd, _⟩ := ownB_rd i3 (by simp [bcells, flatl_len bcell_len])
  have hc3 : (Dd.bnds f x r).length ≤ c3 := by
   rcases i3.2 with ⟨h, h0⟩ | ⟨g, cap, cur, h, _, _, hn, _⟩
   ·omega
   ·cases h; exact hn
  have cw := (i2.cell 0).trans rfl
  have l2 := i2.lt
  have HRD := jQ hrd
  have HB4 := jQ i4
  have HKD := jQ hKD
  have HC3 := jQ hc3
  clear i2 i3 i4 hrd hKD hc3
  gi_wp2_with (fail)
  refine leaves_one HKD.o (fun w' hw => ?_)
  refine ⟨_, results_tmp rfl _ _ _, A3, c3, rfl, (hw.rdD HKD.o HRD.o (Nat.le_refl _)).more hw.size, HC3.o, ?_⟩
  exact HB4.o.trans (hw.below HB4.o.size (fun j hj e => by omega))
 case stop =>
  rintro D c pre W' hD hpre h hK
  exact h.elim
theorem collect_any (Bf Bc Br B : Nat) (v : Fv) (f : Dd.Fd) (x : Dd.Ca) (r : Int) (he : Dd.callE f x = 0) (w : World) (hY : Yc B Bf Bc Br v f x r w) (hB : B ≤ w.heap.size) (hg : 8 < B) :
  Calls Tryz.prog 61 #[.func (.func 108) #[] #[.pointer (some ⟨Bf, 0, none⟩), .pointer (some ⟨Bc, 0, none⟩), .pointer (some ⟨Br, 0, none⟩)]] w fun e w' =>
   ∃ A c, e = .returned (.slice A (Dd.bnds f x r).length c) ∧ Rd w' w'.heap.size 4 A (Dd.bnds f x r).length (bcells (Dd.bnds f x r)) ∧ (Dd.bnds f x r).length ≤ c ∧ Below w.heap.size w w' := by
 have H := jQ (appendSeq_any Bf Bc Br B v f x r he w hY hB hg)
 clear he hY hB hg
 go_enter Tryz.func61, Tryz.ntmps61
 go_wp2_with fail
 refine H.o.mono ?_
 rintro e w1 ⟨A, c, rfl, hrd, hc, hb⟩
 have HR := jQ hrd
 have HB := jQ hb
 have HC := jQ hc
 clear hrd hb hc H
 go_wp2_with fail
 go_ret
 exact ⟨A, c, rfl, HR.o, HC.o, HB.o⟩
end

section
open Go.RowKit
theorem bounds_made (v : Fv) (f : Dd.Fd) (x : Dd.Ca) (r : Int) (w : World) (hF : FRd w w.heap.size v f) (hS : Sn w) :
  Calls Tryz.prog 57 #[fval v f, caval x, .int .i64 r] w fun e w' => e = .returned (.func (.func 108) #[] #[.pointer (some ⟨w.heap.size, 0, none⟩), .pointer (some ⟨w.heap.size + 1, 0, none⟩), .pointer (some ⟨w.heap.size + 1 + 1, 0, none⟩)]) ∧
   Yc w.heap.size w.heap.size (w.heap.size + 1) (w.heap.size + 1 + 1) v f x r w' ∧ Below w.heap.size w w' ∧ w.heap.size + 1 + 1 + 1 ≤ w'.heap.size :=
 (bounds_func v f x r w hF hS).mono fun e w' ⟨he, hy⟩ => ⟨he, ⟨hy.ck.fs.k, hy.ck.kC, hy.kR, hy.ck.fs.r, hy.ck.sn⟩, hy.ck.fs.b, hy.kR.lt⟩
theorem dBounds_any (v : Fv) (f : Dd.Fd) (x : Dd.Ca) (r : Int) (w : World) (hF : FRd w w.heap.size v f) (hS : Sn w) :
  Calls Tryz.prog 24 #[fval v f, caval x, .int .i64 r] w fun ee w' => ∃ A c, ee = .returned (.tuple #[.slice A (Dd.boundsF f x r).1.length c, .int .i64 (Dd.boundsF f x r).2]) ∧ Rd w' w'.heap.size 4 A (Dd.boundsF f x r).1.length (bcells (Dd.boundsF f x r).1) ∧ (Dd.boundsF f x r).1.length ≤ c ∧ Below w.heap.size w w' := by
 have hd : Dd.boundsF f x r = if Dd.callE f x ≠ 0 then ([], Dd.callE f x) else if 0 ≤ r ∧ r ≤ 1000000 then (Dd.bnds f x r, 0) else ([], 1) := rfl
 have S0 := jQ (Ck.new (x := x) hF hS)
 have T0 := jQ (fun V (h : Ck w v f x V) => Ck.tree h)
 have CC := jQ (fun W (h : Ck w v f x W) => dCheckCall_any v f x W h.fs.rd h.sn)
 have BF := jQ (fun W (h : Ck w v f x W) => bounds_made v f x r W h.fs.rd h.sn)
 have BT := dbetween_any 0 r 1000000
 simp only [fval_def, caval_def] at CC BF S0 ⊢
 obtain ⟨E, hE⟩ : ∃ E, Dd.callE f x = E := ⟨_, rfl⟩
 rw [hE] at CC hd
 by_cases h0 : E = 0
 ·subst h0
  rw [if_neg (by simp)] at hd
  by_cases hr : 0 ≤ r ∧ r ≤ 1000000
  ·rw [if_pos hr] at hd
   rw [decide_eq_true hr] at BT
   have HD := jQ hd
   have HBT := jQ BT
   have HE := jQ hE
   rw [HD.o]
   clear hd BT hE hF hS hr
   have P0 := S0.o
   obtain ⟨⟨⟨⟨f0, f1⟩, ⟨f2, f3⟩⟩, ⟨⟨c0, c1⟩, ⟨c2, c3⟩⟩⟩, ⟨⟨⟨c4, c5⟩, ⟨c6, c7⟩⟩, ⟨⟨c8, c9⟩, ⟨c10, ⟨c11, c12⟩⟩⟩⟩⟩ := T0.o _ P0
   clear P0
   go_enter Tryz.func24, Tryz.ntmps24
   go_wp2_with fail
   refine (CC.o _ S0.o).mono ?_
   rintro ee w1 ⟨rfl, hb1⟩
   have S1 := jQ (S0.o.next hb1)
   clear hb1 f0 f1 f2 f3 c0 c1 c2 c3 c4 c5 c6 c7 c8 c9 c10 c11 c12 S0
   obtain ⟨⟨⟨⟨f0, f1⟩, ⟨f2, f3⟩⟩, ⟨⟨c0, c1⟩, ⟨c2, c3⟩⟩⟩, ⟨⟨⟨c4, c5⟩, ⟨c6, c7⟩⟩, ⟨⟨c8, c9⟩, ⟨c10, ⟨c11, c12⟩⟩⟩⟩⟩ := T0.o _ S1.o
   go_wp2_with fail
   refine (HBT.o _).mono ?_
   rintro ee w' ⟨rfl, rfl⟩
   go_wp2_with fail
   refine (BF.o _ S1.o).mono ?_
   rintro ee w2 ⟨rfl, hy2, hb2, hz2⟩
   have S2 := jQ (S1.o.next hb2)
   have HY2 := jQ hy2
   clear hb2 hy2 f0 f1 f2 f3 c0 c1 c2 c3 c4 c5 c6 c7 c8 c9 c10 c11 c12
   have COL := jQ (collect_any w1.heap.size (w1.heap.size + 1) (w1.heap.size + 1 + 1) w1.heap.size v f x r HE.o w2 HY2.o (by omega) (Nat.lt_of_lt_of_le S1.o.sn.1 (Nat.le_refl _)))
   go_wp2_with fail
   refine COL.o.mono ?_
   rintro ee w3 ⟨A, c, rfl, hrd, hc, hb3⟩
   have HR := jQ hrd
   have HC := jQ hc
   have HB := jQ (S2.o.fs.b.trans (hb3.mono S2.o.fs.b.size))
   clear hrd hc hb3
   go_wp2_with fail
   go_ret2
   exact ⟨A, c, rfl, HR.o, HC.o, HB.o⟩
  ·rw [if_neg hr] at hd
   rw [decide_eq_false hr] at BT
   have HD := jQ hd
   have HBT := jQ BT
   rw [HD.o]
   clear hd BT hE hF hS hr
   have P0 := S0.o
   obtain ⟨⟨⟨⟨f0, f1⟩, ⟨f2, f3⟩⟩, ⟨⟨c0, c1⟩, ⟨c2, c3⟩⟩⟩, ⟨⟨⟨c4, c5⟩, ⟨c6, c7⟩⟩, ⟨⟨c8, c9⟩, ⟨c10, ⟨c11, c12⟩⟩⟩⟩⟩ := T0.o _ P0
   clear P0
   go_enter Tryz.func24, Tryz.ntmps24
   go_wp2_with fail
   refine (CC.o _ S0.o).mono ?_
   rintro ee w1 ⟨rfl, hb1⟩
   have S1 := jQ (S0.o.next hb1)
   clear hb1 f0 f1 f2 f3 c0 c1 c2 c3 c4 c5 c6 c7 c8 c9 c10 c11 c12 S0
   go_wp2_with fail
   refine (HBT.o _).mono ?_
   rintro ee w' ⟨rfl, rfl⟩
   go_wp2_with fail
   go_ret2
   exact ⟨none, 0, rfl, Rd.nil _ _ _ _, Nat.le_refl _, S1.o.fs.b⟩
 ·rw [if_pos h0] at hd
  have hne : (E != 0) = true := by simp [h0]
  have HD := jQ hd
  rw [HD.o]
  clear hd BT hE hF hS h0
  have P0 := S0.o
  obtain ⟨⟨⟨⟨f0, f1⟩, ⟨f2, f3⟩⟩, ⟨⟨c0, c1⟩, ⟨c2, c3⟩⟩⟩, ⟨⟨⟨c4, c5⟩, ⟨c6, c7⟩⟩, ⟨⟨c8, c9⟩, ⟨c10, ⟨c11, c12⟩⟩⟩⟩⟩ := T0.o _ P0
  clear P0
  go_enter Tryz.func24, Tryz.ntmps24
  go_wp2_with fail
  refine (CC.o _ S0.o).mono ?_
  rintro ee w1 ⟨rfl, hb1⟩
  have S1 := jQ (S0.o.next hb1)
  clear hb1 f0 f1 f2 f3 c0 c1 c2 c3 c4 c5 c6 c7 c8 c9 c10 c11 c12 S0
  go_wp2_with fail
  go_ret2
  exact ⟨none, 0, rfl, Rd.nil _ _ _ _, Nat.le_refl _, S1.o.fs.b⟩
end
end Go.Proofs.YtccikcpcfdjobaaGreatDoor
