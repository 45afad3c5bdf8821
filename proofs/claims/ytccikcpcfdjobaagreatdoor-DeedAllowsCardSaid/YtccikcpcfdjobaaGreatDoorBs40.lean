/-
  What the claim needs: contracts.
-/
import Derived.Test.YtccikcpcfdjobaaGreatDoorBs38
import Derived.Test.YtccikcpcfdjobaaGreatDoorBs30
set_option linter.unusedVariables false
set_option linter.unusedSimpArgs false
set_option maxHeartbeats 8000000
set_option maxRecDepth 100000
namespace Go.Proofs.YtccikcpcfdjobaaGreatDoor
section
open Go.RowKit
theorem y7n : (Tryz.prog.info? 48).map (fun i => (i.zero, i.size, i.bytes)) = some (some (.agg #[.int .u8 0, .int .i64 0, .int .i64 0, .int .i64 0, .int .i64 0, .int .i64 0, .int .i64 0, .int .i64 0, .int .i64 0, .int .i64 0, .int .i64 0, .int .i64 0, .int .i64 0]), 13, 104) := by kernel_rfl
theorem y0g {P : Program} {ev : Operand -> Value} {w : World} {o : Oper} (ty : TypeId) (x : Operand) (ho : o.op = .load ty x) (g : Nat) (hx : ev x = .pointer (some ⟨g, 0, none⟩)) (t : TypeId) (cs : Array Value) (fr : Nat × Nat) (d : TypeDesc) (hg : w.heap[g]? = some (.cells cs t fr))
  (hu : P.underlying ty = some d) (hd : (match d with | .struct _ | .array _ _ => true | _ => false) = true) (hi : (P.info? ty).map (·.size) = some cs.size) : (execOp ev o).run P w = .ok (.value (.agg cs)) w := by
 unfold execOp;simp only [ho, hx, Instr.loadAt, Instr.sureAddr, Sem.run_bind, Sem.run_pure, Result.andThen_ok, run_loadVar_row w g t ty cs fr d hg hu hd hi]
def RmS (g gD gd m : Nat) (v : Fv) (f : Dd.Fd) (z : Dp) (d : Dd.Dr) (V : World) : Prop :=
  ((V.cell? ⟨g, 0, none⟩ = some (.slice v.a1 f.st.length v.c1) /\ V.cell? ⟨g, 1, none⟩ = some (.slice v.a2 f.li.length v.c2)) /\ (V.cell? ⟨g, 2, none⟩ = some (.slice v.a3 f.pa.length v.c3) /\ V.cell? ⟨g, 3, none⟩ = some (.slice v.a4 f.va.length v.c4))) /\
    ((V.cell? ⟨gd, m * 4 + 1, none⟩ = some (.int .i64 z.1.year) /\ V.cell? ⟨gd, m * 4 + 3, none⟩ = some (.slice z.2.1 z.1.calls.length z.2.2)) /\ V.heap[gD]? = some (.cells (drcells d).toArray 130 (0, 0)))
theorem RmS.but {g gD gd m : Nat} {v : Fv} {f : Dd.Fd} {z : Dp} {d : Dd.Dr} {V V' : World} {X : Nat -> Prop} (h : RmS g gD gd m v f z d V) (hb : But X V V') (h1 : ¬ X g) (h2 : ¬ X gd) (h3 : ¬ X gD) (l1 : g < V.heap.size) (l2 : gd < V.heap.size) (l3 : gD < V.heap.size) : RmS g gD gd m v f z d V' := by
 obtain ⟨⟨⟨f0, f1⟩, f2, f3⟩, ⟨y1, y3⟩, kd⟩ := h;have c : ∀ (k i : Nat) (u : Value), k < V.heap.size -> ¬ X k -> V.cell? ⟨k, i, none⟩ = some u -> V'.cell? ⟨k, i, none⟩ = some u := fun k i u hk hx hc => (World.cell?_of_block (hb.block k hk hx)).trans hc;exact ⟨⟨⟨c _ _ _ l1 h1 f0, c _ _ _ l1 h1 f1⟩, c _ _ _ l1 h1 f2, c _ _ _ l1 h1 f3⟩, ⟨c _ _ _ l2 h2 y1, c _ _ _ l2 h2 y3⟩, (hb.block _ l3 h3).trans kd⟩
theorem Rq.cells {w1 W : World} {F B g gd c : Nat} {v : Fv} {f : Dd.Fd} {qs : List Dp} {z : Dp} {R : Nat -> Prop} {d : Dd.Dr} (h : Rq w1 F B g v f qs z gd c R d W) : RmS g w1.heap.size gd qs.length v f z d W := by
 obtain ⟨_, h2, h3, _⟩ := h.last;exact ⟨⟨⟨(h.q.k.cell 0).trans rfl, (h.q.k.cell 1).trans rfl⟩, (h.q.k.cell 2).trans rfl, (h.q.k.cell 3).trans rfl⟩, ⟨h2, h3⟩, h.kd⟩
theorem y5K (F B g b : Nat) (v : Fv) (f : Dd.Fd) (qs : List Dp) (z : Dp) (A : Option Addr) (c : Nat) (R : Nat -> Prop) (ws : List Cs.Bs) (V : World) (hE : Env V) (hz : Wz V b ws) (d : Dd.Dr) (r : List Cs.Bs) (hn : Dd.draftE ws = some (d, r)) (hQ : Dq V F B g v f (qs ++ [z]) A c R) (hbR : ¬ R b) (hFb : F <= b) (h9 : 9 <= b) (h0 : Dd.fieldE f = 0) (h20 : z.1.calls.length < 20) (hi : (Dd.inF f z.1.year d).1 ≠ 0) :
  Calls Tryz.prog 163 #[.pointer (some ⟨g, 0, none⟩), .pointer (some ⟨b, 0, none⟩)] V fun e V' => e = .panicked [pan (Dd.inF f z.1.year d).1] /\ But (fun k => k = b) V V' := by
 obtain ⟨gd, rfl, _, _, _, _, _, hm⟩ := hQ.last;have RD := jQ (y0W b ws V hE hz);have HN := jQ hn;have HQ := jQ hQ;have HBR := jQ hbR;have HE := jQ hE;have H0 := jQ h0;have HDM := jQ (y1M hn);have HI := jQ hi;obtain ⟨m, hmm⟩ := zE (qs.length);have HMM := jQ hmm;rw [hmm] at hm;have hwm : IntKind.i64.wrap ((m : Int) + 1 - 1) = (m : Int) := by rw [IntWalk.i64_in _ (by omega)]; omega
 have hm0 : (0 : Int) <= (m : Int) := Int.natCast_nonneg _;have hm1 : (m : Int) < (m : Int) + 1 := by omega
 have hgt : decide ((m : Int) + 1 > 0) = true := decide_eq_true (by omega);have hl20 : decide ((z.1.calls.length : Int) < 20) = true := decide_eq_true (by omega);clear hn hE hz hQ hbR hmm h0 hi;go_enter Tryz.func163, Tryz.ntmps163;go_wp2_with fail;refine RD.o.mono ?_;intro e w1 he;obtain ⟨rfl, hb, hz1⟩ := he.some_ HN.o;have HB := jQ hb;have HKN := jQ (Bk.new w1 130 zero17);have S0 := jQ (show Rq w1 F B g v f qs z gd c R d (drw1 w1 d) from ⟨(HQ.o.keep hb (fun k hk => by rw [show k = b from hk]; exact ⟨HBR.o, hFb⟩)).keep (But.of (y0V w1 d) (X := fun _ => False)) (fun k hk => hk.elim), y6v w1 d, y0V w1 d, (HE.o.but1 hb h9).step (y0V w1 d)⟩);obtain ⟨c4, d1, d3, _, hgl, hgd, _⟩ := S0.o.last;have HWD := jQ (show (w1.alloc (.cells zero17 130)).setRow w1.heap.size (drcells d).toArray = drw1 w1 d from rfl);rw [HMM.o] at c4 d1 d3;clear he hb hz1;simp only [zero17] at HKN HWD;go_wp2_with (refine wpList_store_row rfl 130 (.tmp 4) (.tmp 7) rfl w1.heap.size (drcells d).toArray rfl rfl 130 _ HKN.o (by kernel_rfl) rfl (by kernel_rfl) ?_; rw [HWD.o]);refine (y0L _ _).mono ?_;rintro e w2 ⟨rfl, hb2⟩;have S2 := jQ (S0.o.next hb2);clear hb2 c4 d1 d3 hgl hgd S0;obtain ⟨c4, d1, d3, _, hgl, hgd, _⟩ := S2.o.last;rw [HMM.o] at c4 d1 d3;go_wp2_with fail;go_quiet (fail);go_wp2_with fail;refine (y0L _ _).mono ?_;rintro e w3 ⟨rfl, hb3⟩;have S3 := jQ ((S2.o.next (y05 (Below.refl _ _) nq)).next hb3);have S4 := jQ (S3.o.next (Below.refl _ _).drew);have hZL := (S4.o.q.l2 z (by simp)).1;clear hb3 c4 d1 d3 hgl hgd S2;go_upto_region 4 with fail;have hS4 := S4.o.cells;rw [HMM.o] at hS4;refine wp_region_held_drew (S := RmS g w1.heap.size gd m v f z d) (by kernel_rfl) hS4 (fun hHeld => ?_);simp only [List.size_toArray, List.length_cons, List.length_nil, Nat.reduceAdd, Array.replicate_succ, Array.replicate_zero, List.push_toArray, List.append_toArray, List.nil_append, List.cons_append];refine wpAnyH_take (i := 0) (v := ?_) rfl (by kernel_rfl) (by kernel_rfl) (by kernel_rfl) (fun _ _ _ h => h) (Or.inl ⟨by rfl, ?_⟩) (by assumption) ?_;rotate_left
 ·(intro w hSw; obtain ⟨⟨⟨f0, f1⟩, f2, f3⟩, ⟨y1, y3⟩, kd⟩ := hSw; go_simp <;> with_reducible rfl)
 (try simp only [Act.put, zC, zB])
 refine wpAnyH_take (i := 1) (v := ?_) rfl (by kernel_rfl) (by kernel_rfl) (by kernel_rfl) (fun _ _ _ h => h) (Or.inl ⟨by rfl, ?_⟩) (by assumption) ?_;rotate_left
 ·(intro w hSw; obtain ⟨⟨⟨f0, f1⟩, f2, f3⟩, ⟨y1, y3⟩, kd⟩ := hSw; go_simp <;> with_reducible rfl)
 (try simp only [Act.put, zC, zB])
 refine wpAnyH_take (i := 2) (v := ?_) rfl (by kernel_rfl) (by kernel_rfl) (by kernel_rfl) (fun _ _ _ h => h) (Or.inl ⟨by rfl, ?_⟩) (by assumption) ?_;rotate_left
 ·(intro w hSw; obtain ⟨⟨⟨f0, f1⟩, f2, f3⟩, ⟨y1, y3⟩, kd⟩ := hSw; go_simp <;> with_reducible rfl)
 (try simp only [Act.put, zC, zB])
 refine wpAnyH_take (i := 3) (v := ?_) rfl (by kernel_rfl) (by kernel_rfl) (by kernel_rfl) (fun _ _ _ h => h) (Or.inl ⟨by rfl, ?_⟩) (by assumption) ?_;rotate_left
 ·(intro w hSw; obtain ⟨⟨⟨f0, f1⟩, f2, f3⟩, ⟨y1, y3⟩, kd⟩ := hSw; go_simp <;> with_reducible rfl)
 (try simp only [Act.put, zC, zB])
 refine wpAnyH_take (i := 4) (v := ?_) rfl (by kernel_rfl) (by kernel_rfl) (by kernel_rfl) (fun _ _ _ h => h) (Or.inl ⟨by rfl, ?_⟩) (by assumption) ?_;rotate_left
 ·(intro w hSw; obtain ⟨⟨⟨f0, f1⟩, f2, f3⟩, ⟨y1, y3⟩, kd⟩ := hSw; go_simp <;> with_reducible rfl)
 (try simp only [Act.put, zC, zB])
 refine wpAnyH_take (i := 5) (v := drval d) rfl (by kernel_rfl) (by kernel_rfl) (by kernel_rfl) (fun _ _ _ h => h) (Or.inl ⟨by rfl, ?_⟩) (by assumption) ?_
 ·(intro w hSw; obtain ⟨⟨⟨f0, f1⟩, f2, f3⟩, ⟨y1, y3⟩, kd⟩ := hSw; exact y0g 130 (.tmp 4) rfl w1.heap.size rfl 130 _ (0, 0) _ kd Tryz.underlying130 rfl (by kernel_rfl))
 (try simp only [Act.put, zC, zB])
 refine wpAnyH_take (i := 6) (v := ?_) rfl (by kernel_rfl) (by kernel_rfl) (by kernel_rfl) (fun _ _ _ h => h) (Or.inl ⟨by rfl, ?_⟩) (by assumption) ?_;rotate_left
 ·(intro w hSw; obtain ⟨⟨⟨f0, f1⟩, f2, f3⟩, ⟨y1, y3⟩, kd⟩ := hSw; go_simp <;> with_reducible rfl)
 (try simp only [Act.put, zC, zB])
 refine wpAnyH_take (i := 7) (v := ?_) rfl (by kernel_rfl) (by kernel_rfl) (by kernel_rfl) (fun _ _ _ h => h) (Or.inl ⟨by rfl, ?_⟩) (by assumption) ?_;rotate_left
 ·(intro w hSw; obtain ⟨⟨⟨f0, f1⟩, f2, f3⟩, ⟨y1, y3⟩, kd⟩ := hSw; go_simp <;> with_reducible rfl)
 (try simp only [Act.put, zC, zB])
 refine wpAnyH_take (i := 8) (v := ?_) rfl (by kernel_rfl) (by kernel_rfl) (by kernel_rfl) (fun _ _ _ h => h) (Or.inl ⟨by rfl, ?_⟩) (by assumption) ?_;rotate_left
 ·(intro w hSw; obtain ⟨⟨⟨f0, f1⟩, f2, f3⟩, ⟨y1, y3⟩, kd⟩ := hSw; go_simp <;> with_reducible rfl)
 (try simp only [Act.put, zC, zB])
 refine wpAnyH_take (i := 9) (v := ?_) rfl (by kernel_rfl) (by kernel_rfl) (by kernel_rfl) (fun _ _ _ h => h) (Or.inl ⟨by rfl, ?_⟩) (by assumption) ?_;rotate_left
 ·(intro w hSw; obtain ⟨⟨⟨f0, f1⟩, f2, f3⟩, ⟨y1, y3⟩, kd⟩ := hSw; go_simp <;> with_reducible rfl)
 (try simp only [Act.put, zC, zB])
 refine wpAnyH_take (i := 10) (v := ?_) rfl (by kernel_rfl) (by kernel_rfl) (by kernel_rfl) (fun _ _ _ h => h) (Or.inl ⟨by rfl, ?_⟩) (by assumption) ?_;rotate_left
 ·(intro w hSw; obtain ⟨⟨⟨f0, f1⟩, f2, f3⟩, ⟨y1, y3⟩, kd⟩ := hSw; go_simp <;> with_reducible rfl)
 (try simp only [Act.put, zC, zB])
 refine wpAnyH_take (i := 11) (v := ?_) rfl (by kernel_rfl) (by kernel_rfl) (by kernel_rfl) (fun _ _ _ h => h) (Or.inl ⟨by rfl, ?_⟩) (by assumption) ?_;rotate_left
 ·(intro w hSw; obtain ⟨⟨⟨f0, f1⟩, f2, f3⟩, ⟨y1, y3⟩, kd⟩ := hSw; go_simp <;> with_reducible rfl)
 (try simp only [Act.put, zC, zB])
 refine wpAnyH_take (i := 12) (v := ?_) rfl (by kernel_rfl) (by kernel_rfl) (by kernel_rfl) (fun _ _ _ h => h) (Or.inl ⟨by rfl, ?_⟩) (by assumption) ?_;rotate_left
 ·(intro w hSw; obtain ⟨⟨⟨f0, f1⟩, f2, f3⟩, ⟨y1, y3⟩, kd⟩ := hSw; go_simp <;> with_reducible rfl)
 (try simp only [Act.put, zC, zB])
 refine wpAnyH_take (i := 13) (v := ?_) rfl (by kernel_rfl) (by kernel_rfl) (by kernel_rfl) (fun _ _ _ h => h) (Or.inl ⟨by rfl, ?_⟩) (by assumption) ?_;rotate_left
 ·(intro w hSw; obtain ⟨⟨⟨f0, f1⟩, f2, f3⟩, ⟨y1, y3⟩, kd⟩ := hSw; go_simp <;> with_reducible rfl)
 (try simp only [Act.put, zC, zB])
 refine wpAnyH_ready (rs := [14]) (by kernel_rfl) (by simp) ?_;refine zA rfl fun K hK => ?_;go_simp
 go_at_call 104
 refine (y7m v f d z.1.year _ (S4.o.q.fr.more (Nat.le_of_lt (Nat.lt_of_le_of_lt S4.o.q.fg S4.o.q.k.lt))) S4.o.env.sn H0.o S4.o.env.gl HDM.o).mono ?_;rintro e w5 ⟨he, hb5⟩;rw [if_neg HI.o] at he;subst he;exact ⟨rfl, rfl, HB.o.trans (But.of (S4.o.b.trans (hb5.mono S4.o.b.size)))⟩
theorem y4C (F B g b : Nat) (v : Fv) (f : Dd.Fd) (qs : List Dp) (z : Dp) (A : Option Addr) (c : Nat) (R : Nat -> Prop) (ws : List Cs.Bs) (V : World) (hE : Env V) (hz : Wz V b ws) (d : Dd.Dr) (r : List Cs.Bs) (hn : Dd.draftE ws = some (d, r)) (hQ : Dq V F B g v f (qs ++ [z]) A c R) (hbR : ¬ R b) (hFb : F <= b) (h9 : 9 <= b) (h0 : Dd.fieldE f = 0) (h20 : z.1.calls.length < 20) (hi : (Dd.inF f z.1.year d).1 = 0) :
  Calls Tryz.prog 163 #[.pointer (some ⟨g, 0, none⟩), .pointer (some ⟨b, 0, none⟩)] V fun e V' => e = .returned (.tuple #[]) /\ But (fun k => k = b ∨ R k) V V' /\ ∃ A1 c1 R', Dq V' F B g v f (qs ++ [({ z.1 with calls := z.1.calls ++ [(Dd.inF f z.1.year d).2] }, A1, c1)]) A c R' /\ ∀ k, R' k -> R k ∨ V.heap.size <= k := by
 obtain ⟨i0, hi0, hz0, hz1, hz2⟩ := info_parts y7n;obtain ⟨gd, rfl, _, _, _, _, _, hm⟩ := hQ.last;have RD := jQ (y0W b ws V hE hz);have HN := jQ hn;have HQ := jQ hQ;have HBR := jQ hbR;have HE := jQ hE;have H0 := jQ h0;have HDM := jQ (y1M hn);have HI := jQ hi;obtain ⟨m, hmm⟩ := zE (qs.length);have HMM := jQ hmm;rw [hmm] at hm;have hwm : IntKind.i64.wrap ((m : Int) + 1 - 1) = (m : Int) := by rw [IntWalk.i64_in _ (by omega)]; omega
 have hm0 : (0 : Int) <= (m : Int) := Int.natCast_nonneg _;have hm1 : (m : Int) < (m : Int) + 1 := by omega
 have hgt : decide ((m : Int) + 1 > 0) = true := decide_eq_true (by omega);have hl20 : decide ((z.1.calls.length : Int) < 20) = true := decide_eq_true (by omega);clear hn hE hz hQ hbR hmm h0 hi;go_enter Tryz.func163, Tryz.ntmps163;go_wp2_with fail;refine RD.o.mono ?_;intro e w1 he;obtain ⟨rfl, hb, hz1⟩ := he.some_ HN.o;have HB := jQ hb;have HKN := jQ (Bk.new w1 130 zero17);have S0 := jQ (show Rq w1 F B g v f qs z gd c R d (drw1 w1 d) from ⟨(HQ.o.keep hb (fun k hk => by rw [show k = b from hk]; exact ⟨HBR.o, hFb⟩)).keep (But.of (y0V w1 d) (X := fun _ => False)) (fun k hk => hk.elim), y6v w1 d, y0V w1 d, (HE.o.but1 hb h9).step (y0V w1 d)⟩);obtain ⟨c4, d1, d3, _, hgl, hgd, _⟩ := S0.o.last;have HWD := jQ (show (w1.alloc (.cells zero17 130)).setRow w1.heap.size (drcells d).toArray = drw1 w1 d from rfl);rw [HMM.o] at c4 d1 d3;clear he hb hz1;simp only [zero17] at HKN HWD;go_wp2_with (refine wpList_store_row rfl 130 (.tmp 4) (.tmp 7) rfl w1.heap.size (drcells d).toArray rfl rfl 130 _ HKN.o (by kernel_rfl) rfl (by kernel_rfl) ?_; rw [HWD.o]);refine (y0L _ _).mono ?_;rintro e w2 ⟨rfl, hb2⟩;have S2 := jQ (S0.o.next hb2);clear hb2 c4 d1 d3 hgl hgd S0;obtain ⟨c4, d1, d3, _, hgl, hgd, _⟩ := S2.o.last;rw [HMM.o] at c4 d1 d3;go_wp2_with fail;go_quiet (fail);go_wp2_with fail;refine (y0L _ _).mono ?_;rintro e w3 ⟨rfl, hb3⟩;have S3 := jQ ((S2.o.next (y05 (Below.refl _ _) nq)).next hb3);have S4 := jQ (S3.o.next (Below.refl _ _).drew);have hZL := (S4.o.q.l2 z (by simp)).1;clear hb3 c4 d1 d3 hgl hgd S2;go_upto_region 4 with fail;have hS4 := S4.o.cells;rw [HMM.o] at hS4;obtain ⟨x, hxx⟩ := zE ((Dd.inF f z.1.year d).2);have HXX := jQ hxx;clear hxx;obtain ⟨W4, hW4⟩ := zE (w3.drew);refine y2q (p := 17) (q := 18) (S := RmS g w1.heap.size gd m v f z d) 19 rfl rfl (by kernel_rfl) (by kernel_rfl) hS4 (fun hHeld => ?_);rw [hW4] at S4 hS4 hHeld ⊢;clear hW4;dsimp only [List.take];simp only [List.size_toArray, List.length_cons, List.length_nil, Nat.reduceAdd, Array.replicate_succ, Array.replicate_zero, List.push_toArray, List.append_toArray, List.nil_append, List.cons_append];refine wpAnyH_take (i := 0) (v := ?_) rfl (by kernel_rfl) (by kernel_rfl) (by kernel_rfl) (fun _ _ _ h => h) (Or.inl ⟨by rfl, ?_⟩) (by assumption) ?_;rotate_left
 ·(intro w hSw; obtain ⟨⟨⟨f0, f1⟩, f2, f3⟩, ⟨y1, y3⟩, kd⟩ := hSw; go_simp <;> with_reducible rfl)
 (try simp only [Act.put, zC, zB])
 refine wpAnyH_take (i := 1) (v := ?_) rfl (by kernel_rfl) (by kernel_rfl) (by kernel_rfl) (fun _ _ _ h => h) (Or.inl ⟨by rfl, ?_⟩) (by assumption) ?_;rotate_left
 ·(intro w hSw; obtain ⟨⟨⟨f0, f1⟩, f2, f3⟩, ⟨y1, y3⟩, kd⟩ := hSw; go_simp <;> with_reducible rfl)
 (try simp only [Act.put, zC, zB])
 refine wpAnyH_take (i := 2) (v := ?_) rfl (by kernel_rfl) (by kernel_rfl) (by kernel_rfl) (fun _ _ _ h => h) (Or.inl ⟨by rfl, ?_⟩) (by assumption) ?_;rotate_left
 ·(intro w hSw; obtain ⟨⟨⟨f0, f1⟩, f2, f3⟩, ⟨y1, y3⟩, kd⟩ := hSw; go_simp <;> with_reducible rfl)
 (try simp only [Act.put, zC, zB])
 refine wpAnyH_take (i := 3) (v := ?_) rfl (by kernel_rfl) (by kernel_rfl) (by kernel_rfl) (fun _ _ _ h => h) (Or.inl ⟨by rfl, ?_⟩) (by assumption) ?_;rotate_left
 ·(intro w hSw; obtain ⟨⟨⟨f0, f1⟩, f2, f3⟩, ⟨y1, y3⟩, kd⟩ := hSw; go_simp <;> with_reducible rfl)
 (try simp only [Act.put, zC, zB])
 refine wpAnyH_take (i := 4) (v := ?_) rfl (by kernel_rfl) (by kernel_rfl) (by kernel_rfl) (fun _ _ _ h => h) (Or.inl ⟨by rfl, ?_⟩) (by assumption) ?_;rotate_left
 ·(intro w hSw; obtain ⟨⟨⟨f0, f1⟩, f2, f3⟩, ⟨y1, y3⟩, kd⟩ := hSw; go_simp <;> with_reducible rfl)
 (try simp only [Act.put, zC, zB])
 refine wpAnyH_take (i := 5) (v := drval d) rfl (by kernel_rfl) (by kernel_rfl) (by kernel_rfl) (fun _ _ _ h => h) (Or.inl ⟨by rfl, ?_⟩) (by assumption) ?_
 ·(intro w hSw; obtain ⟨⟨⟨f0, f1⟩, f2, f3⟩, ⟨y1, y3⟩, kd⟩ := hSw; exact y0g 130 (.tmp 4) rfl w1.heap.size rfl 130 _ (0, 0) _ kd Tryz.underlying130 rfl (by kernel_rfl))
 (try simp only [Act.put, zC, zB])
 refine wpAnyH_take (i := 6) (v := ?_) rfl (by kernel_rfl) (by kernel_rfl) (by kernel_rfl) (fun _ _ _ h => h) (Or.inl ⟨by rfl, ?_⟩) (by assumption) ?_;rotate_left
 ·(intro w hSw; obtain ⟨⟨⟨f0, f1⟩, f2, f3⟩, ⟨y1, y3⟩, kd⟩ := hSw; go_simp <;> with_reducible rfl)
 (try simp only [Act.put, zC, zB])
 refine wpAnyH_take (i := 7) (v := ?_) rfl (by kernel_rfl) (by kernel_rfl) (by kernel_rfl) (fun _ _ _ h => h) (Or.inl ⟨by rfl, ?_⟩) (by assumption) ?_;rotate_left
 ·(intro w hSw; obtain ⟨⟨⟨f0, f1⟩, f2, f3⟩, ⟨y1, y3⟩, kd⟩ := hSw; go_simp <;> with_reducible rfl)
 (try simp only [Act.put, zC, zB])
 refine wpAnyH_take (i := 8) (v := ?_) rfl (by kernel_rfl) (by kernel_rfl) (by kernel_rfl) (fun _ _ _ h => h) (Or.inl ⟨by rfl, ?_⟩) (by assumption) ?_;rotate_left
 ·(intro w hSw; obtain ⟨⟨⟨f0, f1⟩, f2, f3⟩, ⟨y1, y3⟩, kd⟩ := hSw; go_simp <;> with_reducible rfl)
 (try simp only [Act.put, zC, zB])
 refine wpAnyH_take (i := 9) (v := ?_) rfl (by kernel_rfl) (by kernel_rfl) (by kernel_rfl) (fun _ _ _ h => h) (Or.inl ⟨by rfl, ?_⟩) (by assumption) ?_;rotate_left
 ·(intro w hSw; obtain ⟨⟨⟨f0, f1⟩, f2, f3⟩, ⟨y1, y3⟩, kd⟩ := hSw; go_simp <;> with_reducible rfl)
 (try simp only [Act.put, zC, zB])
 refine wpAnyH_take (i := 10) (v := ?_) rfl (by kernel_rfl) (by kernel_rfl) (by kernel_rfl) (fun _ _ _ h => h) (Or.inl ⟨by rfl, ?_⟩) (by assumption) ?_;rotate_left
 ·(intro w hSw; obtain ⟨⟨⟨f0, f1⟩, f2, f3⟩, ⟨y1, y3⟩, kd⟩ := hSw; go_simp <;> with_reducible rfl)
 (try simp only [Act.put, zC, zB])
 refine wpAnyH_take (i := 11) (v := ?_) rfl (by kernel_rfl) (by kernel_rfl) (by kernel_rfl) (fun _ _ _ h => h) (Or.inl ⟨by rfl, ?_⟩) (by assumption) ?_;rotate_left
 ·(intro w hSw; obtain ⟨⟨⟨f0, f1⟩, f2, f3⟩, ⟨y1, y3⟩, kd⟩ := hSw; go_simp <;> with_reducible rfl)
 (try simp only [Act.put, zC, zB])
 refine wpAnyH_take (i := 12) (v := ?_) rfl (by kernel_rfl) (by kernel_rfl) (by kernel_rfl) (fun _ _ _ h => h) (Or.inl ⟨by rfl, ?_⟩) (by assumption) ?_;rotate_left
 ·(intro w hSw; obtain ⟨⟨⟨f0, f1⟩, f2, f3⟩, ⟨y1, y3⟩, kd⟩ := hSw; go_simp <;> with_reducible rfl)
 (try simp only [Act.put, zC, zB])
 refine wpAnyH_take (i := 13) (v := ?_) rfl (by kernel_rfl) (by kernel_rfl) (by kernel_rfl) (fun _ _ _ h => h) (Or.inl ⟨by rfl, ?_⟩) (by assumption) ?_;rotate_left
 ·(intro w hSw; obtain ⟨⟨⟨f0, f1⟩, f2, f3⟩, ⟨y1, y3⟩, kd⟩ := hSw; go_simp <;> with_reducible rfl)
 (try simp only [Act.put, zC, zB])
 refine wpAnyH_ready (rs := [14]) (by kernel_rfl) (by simp) ?_;refine zA rfl fun K hK => ?_;go_simp
 go_at_call 104
 refine (y7m v f d z.1.year _ (S4.o.q.fr.more (Nat.le_of_lt (Nat.lt_of_le_of_lt S4.o.q.fg S4.o.q.k.lt))) S4.o.env.sn H0.o S4.o.env.gl HDM.o).mono ?_;rintro e w5 ⟨he, hb5⟩;rw [if_pos HI.o, HXX.o, y03] at he;subst he;have S5 := jQ (S4.o.next hb5);have HB5 := jQ hb5;have hS5 := S5.o.cells;rw [HMM.o] at hS5;clear hb5
 (try go_wp2_with fail)
 refine hK.out _ _ hS5 (fun hHeld => ?_);clear hK K
 (try simp only [Act.put, zC, zB])
 refine wpAnyH_ready (rs := [15]) (by kernel_rfl) (by simp) ?_;refine zA rfl fun K hK => ?_;rw [if_pos (by rfl)];go_simp;have S6 := jQ (S5.o.next ((Below.refl _ _).alloc (Nat.le_refl _) (.cells (cacell x).toArray 48)));have hS6 := S6.o.cells;rw [HMM.o] at hS6;refine hK.out _ _ hS6 (fun hHeld => ?_);clear hK K
 (try simp only [Act.put, zC, zB])
 refine wpAnyH_ready (rs := [16]) (by kernel_rfl) (by simp) ?_;refine zA rfl fun K hK => ?_;have hob := S6.o.q.oc z (by simp);have hOn := jQ hob;have hwB := S6.o.q.le;rw [y3N] at hob;refine step_append_lies _ rfl (.tmp 37) (.tmp 48) 93 rfl B 48 i0 _ 13 104 Tryz.underlying93 hi0 hz0 hz1 hz2 rfl (by omega) (.slice z.2.1 z.1.calls.length z.2.2) z.1.calls.length (cacells z.1.calls) (by rfl) hob ⟨w5.heap.size, 0, none⟩ 1 1 (cacell x) (by rfl) rfl
  (World.news_of_block (cs := (cacell x).toArray) (t := 48) (fr := (0, 0)) (World.alloc_heap_new w5 _)) (by simp [cacell, Value.oneCell']) (by omega) (by unfold maxLen; omega) (by omega) hwB (w5.heap.size + 1) (by simp) ?_
 intro gn cn w7 hown hgrow hat hlt7;have hgB := S6.o.q.gB;have n1 : ¬ (Value.slice z.2.1 z.1.calls.length z.2.2).ownBlock = some g := fun e => by have := y0E hob g e; omega
 have n2 : ¬ (Value.slice z.2.1 z.1.calls.length z.2.2).ownBlock = some gd := fun e => y0t hob S6.o.q.o (by decide) gd e rfl;have n3 : ¬ (Value.slice z.2.1 z.1.calls.length z.2.2).ownBlock = some w1.heap.size := fun e => y7s hob S6.o.kd (by decide) e.symm;obtain ⟨_, _, _, fz6, gl6, gdl6, dl6⟩ := S6.o.last;rw [HMM.o] at fz6;have hbG := But.grown hgrow;have hS7 := hS6.but hbG n1 n2 n3 gl6 gdl6 dl6;have fz7 := (World.frozen?_of_block (hbG.block gd gdl6 n2)).trans fz6;have gdl7 := Nat.lt_of_lt_of_le gdl6 hgrow.size;obtain ⟨R', hD, hBR, hR'⟩ := S5.o.q.call (d := z.1) (A1 := z.2.1) (c1 := z.2.2) (x := x) rfl h20 ((Below.refl _ _).alloc (Nat.le_refl _) _) hown hgrow (by rcases hat with e | e; exact .inl e; exact .inr (by omega));rw [HMM.o] at hD hBR;have HD := jQ hD;have HBR2 := jQ hBR;have HR' := jQ hR';refine hK.out _ _ hS7 (fun hHeld => ?_);clear hK K hown hgrow hat hob hD hBR hR' hbG
 (try simp only [Act.put, zC, zB])
 refine wpAnyH_take (i := 17) (v := ?_) rfl (by kernel_rfl) (by kernel_rfl) (by kernel_rfl) (fun _ _ _ h => h) (Or.inl ⟨by rfl, ?_⟩) (by assumption) ?_;rotate_left
 ·(intro w hSw; obtain ⟨⟨⟨f0, f1⟩, f2, f3⟩, ⟨y1, y3⟩, kd⟩ := hSw; go_simp <;> with_reducible rfl)
 (try simp only [Act.put, zC, zB])
 refine wpAnyH_take (i := 18) (v := ?_) rfl (by kernel_rfl) (by kernel_rfl) (by kernel_rfl) (fun _ _ _ h => h) (Or.inl ⟨by rfl, ?_⟩) (by assumption) ?_;rotate_left
 ·(intro w hSw; obtain ⟨⟨⟨f0, f1⟩, f2, f3⟩, ⟨y1, y3⟩, kd⟩ := hSw; go_simp <;> with_reducible rfl)
 (try simp only [Act.put, zC, zB])
 refine wpAnyH_done (by kernel_rfl) ?_ _;simp only [QLast, zC];obtain ⟨_, ⟨_, y3⟩, _⟩ := hS7;go_wp2_with (fail)
 go_end0
 refine ⟨rfl, ?_, some ⟨gn, 0, none⟩, cn, R', by rw [HXX.o]; exact HD.o, fun k hk => ?_⟩
 ·exact ((HB.o.mono (fun k h => .inl h)).trans (But.of S5.o.b)).trans (HBR2.o.mono (fun k h => .inr h))
 rcases HR'.o k hk with e | e
 ·exact .inl e
 exact .inr (Nat.le_trans HB.o.size (Nat.le_trans S5.o.b.size e))
theorem y5J (F B g b : Nat) (v : Fv) (f : Dd.Fd) (ps : List Dp) (A : Option Addr) (c : Nat) (R : Nat -> Prop) (ws : List Cs.Bs) (V : World) (hE : Env V) (hz : Wz V b ws) (hQ : Dq V F B g v f ps A c R) (hbR : ¬ R b) (hFb : F <= b) (h9 : 9 <= b) (h0 : Dd.fieldE f = 0) :
  Calls Tryz.prog 163 #[.pointer (some ⟨g, 0, none⟩), .pointer (some ⟨b, 0, none⟩)] V (Fs3 (Dd.moreL f (ps.map (fun p : Dp => p.1)) ws) F B g b v f R V) := by
 have hfin := Dd.y2Y ws;unfold Dd.moreL;rw [hfin];rcases hn : Dd.draftE ws with _ | ⟨d, r⟩
 ·refine (y4D F B g b v f ps A c R ws V hE hz hn).mono ?_;rintro e V' ⟨rfl, hb⟩;exact Fs3.no rfl (by decide) hb
 simp only [Option.map_some];rcases List.eq_nil_or_concat ps with rfl | ⟨qs, z, rfl⟩
 ·refine (y5L F B g b v f A c R ws V hE hz d r hn hQ hbR).mono ?_;rintro e V' ⟨rfl, hb⟩;exact Fs3.no rfl (by decide) hb
 have hl : ((qs.concat z).map (fun p : Dp => p.1)).getLast? = some z.1 := by simp
 have hd : ((qs.concat z).map (fun p : Dp => p.1)).dropLast = qs.map (fun p : Dp => p.1) := by simp
 rw [hl];dsimp only;rw [List.concat_eq_append] at hQ;by_cases h20 : 20 <= z.1.calls.length
 ·rw [if_pos h20];refine (y4B F B g b v f qs z A c R ws V hE hz d r hn hQ hbR hFb h9 h20).mono ?_;rintro e V' ⟨rfl, hb⟩;exact Fs3.no rfl (by decide) hb
 rw [if_neg h20];by_cases hi : (Dd.inF f z.1.year d).1 = 0
 ·rw [if_pos hi, hd];refine (y4C F B g b v f qs z A c R ws V hE hz d r hn hQ hbR hFb h9 h0 (by omega) hi).mono ?_;rintro e V' ⟨rfl, hb, A1, c1, R', hD, hR⟩;exact ⟨hb, .inl ⟨rfl, rfl, _, A, c, R', by simp, hD, hR⟩⟩
 rw [if_neg hi];refine (y5K F B g b v f qs z A c R ws V hE hz d r hn hQ hbR hFb h9 h0 (by omega) hi).mono ?_;rintro e V' ⟨rfl, hb⟩;exact Fs3.no rfl hi hb
end

section
open Go.RowKit Go.Shelf
attribute [local go_sem] Oper.semAt_some
def ApI (w : World) (pre : List Dd.Bd) (W : World) : Prop :=
 ∃ V, Bk W w.heap.size 52 #[V] /\ W.ownsRow (w.heap.size + 1) 78 4 V pre.length (bcells pre) /\ Below w.heap.size w W
theorem yC2 {w : World} {f : Dd.Fd} {x : Dd.Ca} {r : Int} {B : Nat} (hB : w.heap.size <= B) : OwnFrom B (fun (pre : List (Dd.Ib f x r)) W => ApI w (pre.map (·.1)) W) := by
 rintro pre W W' row ⟨v, h2, h3, h4⟩ hg hr;exact ⟨v, y1D h2 hg (fun r e => (hr r e).2), y65 h3 hg (fun r e => (hr r e).2), y0j h4 hB hg (fun r e => (hr r e).1) h4.size⟩
theorem yAw {w W w1 : World} {V V' : Value} {pre : List Dd.Bd} {b : Dd.Bd} (i2 : Bk W w.heap.size 52 #[V]) (i3 : W.ownsRow (w.heap.size + 1) 78 4 V pre.length (bcells pre)) (i4 : Below w.heap.size w W)
  (hown : w1.ownsRow (w.heap.size + 1) 78 4 V' (pre.length + 1) (bcells pre ++ bcell b)) (hg : (W.alloc (.cells (bcell b).toArray 78)).grownBy w1 V.ownBlock) :
  w1.cell? ⟨w.heap.size, 0, none⟩ = some V /\ w1.frozen? ⟨w.heap.size, 0, none⟩ = false /\ w.heap.size < w1.heap.size /\
  jP (KeepsFrom (w.heap.size + 1) W (w1.setCell ⟨w.heap.size, 0, none⟩ V') /\ Kc (w.heap.size + 1) (fun j => j = w.heap.size) W (w1.setCell ⟨w.heap.size, 0, none⟩ V') /\ ApI w (pre ++ [b]) (w1.setCell ⟨w.heap.size, 0, none⟩ V')) := by
 have n2 : some w.heap.size ≠ V.ownBlock := fun e => by have := (i3.lt _ e.symm).1; omega
 have j2 := i2.alloc (.cells (bcell b).toArray 78);have j3 := i3.alloc (.cells (bcell b).toArray 78);have a2 := j2.grown hg n2;have hl := i2.lt;refine ⟨(a2.cell 0).trans rfl, a2.frozen 0, a2.lt, Lib.hid ⟨?_, ?_, V', a2.set 0 _, ?_, ?_⟩⟩
 ·exact (((KeepsOthers.alloc W (.cells (bcell b).toArray 78)).from _).trans (yCq j3 hg _)).trans (y2s (y0x w1 ⟨w.heap.size, 0, none⟩ V') (fun k e => by cases e; exact ⟨_, _, _, a2⟩) _)
 ·exact (((Kc.refl (w.heap.size + 1) (fun j => j = w.heap.size) W).alloc (by omega) _).trans (Kc.own j3 hg (by rw [World.size_alloc]; omega) (Nat.le_refl _) (by decide))).setBk a2 (by decide) (fun _ => rfl) 0 V'
 ·rw [List.length_append, show bcells (pre ++ [b]) = bcells pre ++ bcell b by simp [bcells]];exact y59 hown (Nat.lt_succ_self _) V'
 exact ((i4.alloc i4.size _).grown hg (by rw [World.size_alloc]; have := i4.size; omega) (fun k hk => by have := (j3.lt k hk).1; omega)).setCell (Nat.le_refl _) _
theorem y4g (Bf Bc Br B : Nat) (v : Fv) (f : Dd.Fd) (x : Dd.Ca) (r : Int) (he : Dd.callE f x = 0) (w : World) (hY : Yc B Bf Bc Br v f x r w) (hB : B <= w.heap.size) (hg : 8 < B) :
  Calls Tryz.prog 111 #[.slice none 0 0, .func (.func 108) #[] #[.pointer (some ⟨Bf, 0, none⟩), .pointer (some ⟨Bc, 0, none⟩), .pointer (some ⟨Br, 0, none⟩)]] w fun e w' =>
   ∃ A c, e = .returned (.slice A (Dd.bnds f x r).length c) /\ Rd w' w'.heap.size 4 A (Dd.bnds f x r).length (bcells (Dd.bnds f x r)) /\ (Dd.bnds f x r).length <= c /\ Below w.heap.size w w' := by
 obtain ⟨i0, hi0, hy0, hy1, hy2⟩ := info_parts yBA;have hlF := hY.kF.lt;have hlC := hY.kC.lt;have hlR := hY.kR.lt;have hlen := Dd.y1s f x r;have hgl := Dd.y2C he;have hl1 := hY.rd.l1;have hB0 := (Below.refl w.heap.size w).alloc (Nat.le_refl _) (.cells #[.slice none 0 0] 52);have k0 := Bk.new w 52 #[.slice none 0 0];have e0 : (w.alloc (.cells #[.slice none 0 0] 52)).heap.size = w.heap.size + 1 := World.size_alloc _ _;have y0 := hY.below hB0 hlF hlC hlR hB (by omega);have hst := fun W (hM : w.heap.size + 1 <= W.heap.size) h => y2f 2 (by omega) Bf Bc Br (w.heap.size + 1) B (fun j => j = w.heap.size) v f x r he (fun j hj => by omega) (by omega) (by omega) (by omega) (by omega) hg (by omega) (by omega) (by omega) W hM h;have HST := jQ hst;have HLEN := jQ hlen;clear hst hlen hY;refine (callsIn_wide (n := 3)).1 ?_;refine callsIn_of_wp_marks Tryz.func111 rfl trivial ?_ rfl;simp only [Tryz.ntmps111, List.size_toArray, List.length_cons, List.length_nil, Nat.reduceAdd, Nat.reduceSub, Array.replicate_succ, Array.replicate_zero, List.push_toArray, List.append_toArray, List.nil_append, List.cons_append];gi_wp2_with (fail);obtain ⟨W0, hW0⟩ := zE ((w.alloc (.cells #[.slice none 0 0] 52)));rw [hW0] at k0 hB0 e0 y0 ⊢;clear hW0;have hz0 : W0.heap.size <= w.heap.size + 1 := by omega
 have hz1 : w.heap.size + 1 <= W0.heap.size := by omega
 have e1 : w.heap.size + 1 = W0.heap.size := e0.symm;have E1 := jQ e1;clear e0 e1;refine wpIn_rangeFunc_ownH (F := Fence.wide) (n := 3) rfl (by omega) (gf := 108) (lb := #[.pointer (some ⟨Bf, 0, none⟩), .pointer (some ⟨Bc, 0, none⟩), .pointer (some ⟨Br, 0, none⟩)]) rfl trivial (enters_of Tryz.func108 (by kernel_rfl) rfl)
  (HST.o W0 hz1 y0) kc_t (kc_b hz1) (Below.refl _ _) (fun _ => rfl)
  (fun pre W' => ApI w (pre.map (·.1)) W')
  (fun _ _ _ => False)
  (yC2 (by omega))
  (fun _ _ _ _ _ h _ _ => h)
  ⟨.slice none 0 0, k0, World.ownsRow_nil _ _ _ _, hB0⟩
  (fun b a' W' => ∃ Bx, w.heap.size + 1 <= Bx /\ Bk W' Bx 78 #[.int .i64 b.1.f, .int .i64 b.1.t, .int .i64 b.1.m, .int .i64 b.1.r] /\ (∃ V, Bk W' w.heap.size 52 #[V] /\ V.ownBlock ≠ some Bx) /\ a' = { tmps := #[.slice none 0 0, .func (.func 108) #[] #[.pointer (some ⟨Bf, 0, none⟩), .pointer (some ⟨Bc, 0, none⟩), .pointer (some ⟨Br, 0, none⟩)], .pointer (some ⟨w.heap.size, 0, none⟩), undef, .slice none 0 0, .pointer (some ⟨Bx, 0, none⟩), .func (.func 108) #[] #[.pointer (some ⟨Bf, 0, none⟩), .pointer (some ⟨Bc, 0, none⟩), .pointer (some ⟨Br, 0, none⟩)], .agg #[.int .i64 b.1.f, .int .i64 b.1.t, .int .i64 b.1.m, .int .i64 b.1.r], undef, undef, undef, undef, undef], defers := [] })
  (fun b a' _ X Y row hs hg hr => by obtain ⟨Bx, h1, h2, ⟨V, h3, h4⟩, h5⟩ := hs; exact ⟨Bx, h1, y1D h2 hg (fun r e => (hr r e).2), ⟨V, y1D h3 hg (fun r e => (hr r e).2), h4⟩, h5⟩)
  ?assign ?body ?done ?stop
 case assign =>
  rintro l pre b W' KK i1 hKK;rw [show ibv b = #[.agg #[.int .i64 b.1.f, .int .i64 b.1.t, .int .i64 b.1.m, .int .i64 b.1.r]] from rfl];have I1 := jQ i1;have HKK := jQ hKK;clear i1 hKK;gi_wp2_with (fail);obtain ⟨V, q2, q3, q4⟩ := I1.o;have hl := q2.lt;refine HKK.o _ _ ((KeepsOthers.alloc _ _).from _) ((Kc.refl _ _ _).alloc (by omega) _) ⟨V, q2.alloc _, q3.alloc _, q4.alloc q4.size _⟩ ⟨W'.heap.size, by omega, Bk.new W' _ _, ⟨V, q2.alloc _, fun e => by have := (q3.lt _ e).2; omega⟩, rfl⟩
 case body =>
  rintro l' pre b a' W' hl' ⟨rr, hr⟩ ⟨V, i2, i3, i4⟩ ⟨Bx, hBx, bX, ⟨V', j2, j3⟩, rfl⟩ hltp;rw [List.length_map] at i3;obtain ⟨⟨bf, bt, bm, br⟩, hb⟩ := b;dsimp only at bX;have x0 := (bX.cell 0).trans rfl;have x1 := (bX.cell 1).trans rfl;have x2 := (bX.cell 2).trans rfl;have x3 := (bX.cell 3).trans rfl;have cw := (i2.cell 0).trans rfl;have lX := bX.lt;have l2 := i2.lt;have hpn := fun w1 v' h1 h2 => yAw (b := ⟨bf, bt, bm, br⟩) i2 (by rw [List.length_map]; exact i3) i4 (w1 := w1) (V' := v') h1 h2;have hmap : (pre ++ [(⟨⟨bf, bt, bm, br⟩, hb⟩ : Dd.Ib f x r)]).map (·.1) = pre.map (·.1) ++ [⟨bf, bt, bm, br⟩] := by simp
  have hcl : (pre.map (·.1)).length + 1 = pre.length + 1 := by simp
  rw [hcl] at hpn;have HM := jQ hmap;have hOn := i3.alloc (.cells #[.int .i64 bf, .int .i64 bt, .int .i64 bm, .int .i64 br] 78);have hb47 : pre.length + 1 <= 10000000 := by have := HLEN.o; omega
  have HPN := jQ hpn;have HON := jQ hOn;clear i2 i3 i4 bX j2 j3 hpn hcl hmap hOn hltp;gi_wp2_with (first
   | (refine wpListIn_append_own_at _ rfl _ _ 52 rfl (w.heap.size + 1) 78 i0 _ 4 32 Tryz.underlying52 hi0 hy0 hy1 hy2 rfl (by omega) V _ _ rfl HON.o ⟨W'.heap.size, 0, none⟩ 1 1 [.int .i64 bf, .int .i64 bt, .int .i64 bm, .int .i64 br] rfl rfl (World.news_of_block (cs := #[.int .i64 bf, .int .i64 bt, .int .i64 bm, .int .i64 br]) (t := 78) (fr := (0, 0)) (World.alloc_heap_new W' _)) (by simp [Value.oneCell']) (by unfold maxLen; omega) (by omega) (by rw [World.size_alloc]; omega) ?_; intro v' w1 hown hgrow hnil hat; obtain ⟨A3, c3, hv3, _, _⟩ := y0e hown (by simp [bcells, y1f y2x]; omega); subst hv3; obtain ⟨q1, q2, q3, QQ⟩ := HPN.o w1 _ hown hgrow))
  obtain ⟨k1, k2, k3⟩ := QQ.o;refine ⟨E1.o ▸ k1, k2, ?_⟩;show ApI w (List.map (·.1) (pre ++ [_])) _;rw [List.map_append];exact k3
 case done =>
  rintro D ys W' hD rfl ⟨V, i2, i3, i4⟩ hKD;rw [List.length_map, List.length_attach, List.attach_map_subtype_val] at i3;obtain ⟨A3, c3, rfl, hrd, _⟩ := y0e i3 (by simp [bcells, y1f y2x]);have hc3 : (Dd.bnds f x r).length <= c3 := by
   rcases i3.2 with ⟨h, h0⟩ | ⟨g, cap, cur, h, _, _, hn, _⟩
   ·omega
   cases h; exact hn
  have cw := (i2.cell 0).trans rfl;have l2 := i2.lt;have HRD := jQ hrd;have HB4 := jQ i4;have HKD := jQ hKD;have HC3 := jQ hc3;clear i2 i3 i4 hrd hKD hc3;gi_wp2_with (fail);refine y2Z HKD.o (fun w' hw => ?_);refine ⟨_, results_tmp rfl _ _ _, A3, c3, rfl, (hw.rdD HKD.o HRD.o (Nat.le_refl _)).more hw.size, HC3.o, ?_⟩;exact HB4.o.trans (hw.below HB4.o.size (fun j hj e => by omega))
 rintro D c pre W' hD hpre h hK;exact h.elim
theorem y0c (Bf Bc Br B : Nat) (v : Fv) (f : Dd.Fd) (x : Dd.Ca) (r : Int) (he : Dd.callE f x = 0) (w : World) (hY : Yc B Bf Bc Br v f x r w) (hB : B <= w.heap.size) (hg : 8 < B) :
  Calls Tryz.prog 61 #[.func (.func 108) #[] #[.pointer (some ⟨Bf, 0, none⟩), .pointer (some ⟨Bc, 0, none⟩), .pointer (some ⟨Br, 0, none⟩)]] w fun e w' =>
   ∃ A c, e = .returned (.slice A (Dd.bnds f x r).length c) /\ Rd w' w'.heap.size 4 A (Dd.bnds f x r).length (bcells (Dd.bnds f x r)) /\ (Dd.bnds f x r).length <= c /\ Below w.heap.size w w' := by
 have H := jQ (y4g Bf Bc Br B v f x r he w hY hB hg);clear he hY hB hg;go_enter Tryz.func61, Tryz.ntmps61;go_wp2_with fail;refine H.o.mono ?_;rintro e w1 ⟨A, c, rfl, hrd, hc, hb⟩;have HR := jQ hrd;have HB := jQ hb;have HC := jQ hc;clear hrd hb hc H;go_wp2_with fail;go_ret;exact ⟨A, c, rfl, HR.o, HC.o, HB.o⟩
end

section
open Go.RowKit
theorem y1J (v : Fv) (f : Dd.Fd) (x : Dd.Ca) (r : Int) (w : World) (hF : FRd w w.heap.size v f) (hS : Sn w) :
  Calls Tryz.prog 57 #[fval v f, caval x, .int .i64 r] w fun e w' => e = .returned (.func (.func 108) #[] #[.pointer (some ⟨w.heap.size, 0, none⟩), .pointer (some ⟨w.heap.size + 1, 0, none⟩), .pointer (some ⟨w.heap.size + 1 + 1, 0, none⟩)]) /\
   Yc w.heap.size w.heap.size (w.heap.size + 1) (w.heap.size + 1 + 1) v f x r w' /\ Below w.heap.size w w' /\ w.heap.size + 1 + 1 + 1 <= w'.heap.size :=
 (y6j v f x r w hF hS).mono fun e w' ⟨he, hy⟩ => ⟨he, ⟨hy.ck.fs.k, hy.ck.kC, hy.kR, hy.ck.fs.r, hy.ck.sn⟩, hy.ck.fs.b, hy.kR.lt⟩
theorem y36 (v : Fv) (f : Dd.Fd) (x : Dd.Ca) (r : Int) (w : World) (hF : FRd w w.heap.size v f) (hS : Sn w) :
  Calls Tryz.prog 24 #[fval v f, caval x, .int .i64 r] w fun ee w' => ∃ A c, ee = .returned (.tuple #[.slice A (Dd.boundsF f x r).1.length c, .int .i64 (Dd.boundsF f x r).2]) /\ Rd w' w'.heap.size 4 A (Dd.boundsF f x r).1.length (bcells (Dd.boundsF f x r).1) /\ (Dd.boundsF f x r).1.length <= c /\ Below w.heap.size w w' := by
 have hd : Dd.boundsF f x r = if Dd.callE f x ≠ 0 then ([], Dd.callE f x) else if 0 <= r /\ r <= 1000000 then (Dd.bnds f x r, 0) else ([], 1) := rfl
 have S0 := jQ (Ck.new (x := x) hF hS);have T0 := jQ (fun V (h : Ck w v f x V) => Ck.tree h);have CC := jQ (fun W (h : Ck w v f x W) => y0B v f x W h.fs.rd h.sn);have BF := jQ (fun W (h : Ck w v f x W) => y1J v f x r W h.fs.rd h.sn);have BT := y0K 0 r 1000000;simp only [y01, y03] at CC BF S0 ⊢;obtain ⟨E, hE⟩ := zE (Dd.callE f x);rw [hE] at CC hd;by_cases h0 : E = 0
 ·subst h0;rw [if_neg (by simp)] at hd;by_cases hr : 0 <= r /\ r <= 1000000
  ·rw [if_pos hr] at hd;rw [decide_eq_true hr] at BT;have HD := jQ hd;have HBT := jQ BT;have HE := jQ hE;rw [HD.o];clear hd BT hE hF hS hr;have P0 := S0.o;obtain ⟨⟨⟨⟨f0, f1⟩, f2, f3⟩, ⟨⟨c0, c1⟩, c2, c3⟩⟩, ⟨⟨⟨c4, c5⟩, c6, c7⟩, ⟨⟨c8, c9⟩, c10, c11, c12⟩⟩⟩ := T0.o _ P0;clear P0;go_enter Tryz.func24, Tryz.ntmps24;go_wp2_with fail;refine (CC.o _ S0.o).mono ?_;rintro ee w1 ⟨rfl, hb1⟩;have S1 := jQ (S0.o.next hb1);clear hb1 f0 f1 f2 f3 c0 c1 c2 c3 c4 c5 c6 c7 c8 c9 c10 c11 c12 S0;obtain ⟨⟨⟨⟨f0, f1⟩, f2, f3⟩, ⟨⟨c0, c1⟩, c2, c3⟩⟩, ⟨⟨⟨c4, c5⟩, c6, c7⟩, ⟨⟨c8, c9⟩, c10, c11, c12⟩⟩⟩ := T0.o _ S1.o;go_wp2_with fail;refine (HBT.o _).mono ?_;rintro ee w' ⟨rfl, rfl⟩;go_wp2_with fail;refine (BF.o _ S1.o).mono ?_;rintro ee w2 ⟨rfl, hy2, hb2, hz2⟩;have S2 := jQ (S1.o.next hb2);have HY2 := jQ hy2;clear hb2 hy2 f0 f1 f2 f3 c0 c1 c2 c3 c4 c5 c6 c7 c8 c9 c10 c11 c12;have COL := jQ (y0c w1.heap.size (w1.heap.size + 1) (w1.heap.size + 1 + 1) w1.heap.size v f x r HE.o w2 HY2.o (by omega) (Nat.lt_of_lt_of_le S1.o.sn.1 (Nat.le_refl _)));go_wp2_with fail;refine COL.o.mono ?_;rintro ee w3 ⟨A, c, rfl, hrd, hc, hb3⟩;have HR := jQ hrd;have HC := jQ hc;have HB := jQ (S2.o.fs.b.trans (hb3.mono S2.o.fs.b.size));clear hrd hc hb3;go_wp2_with fail;go_ret2;exact ⟨A, c, rfl, HR.o, HC.o, HB.o⟩
  rw [if_neg hr] at hd;rw [decide_eq_false hr] at BT;have HD := jQ hd;have HBT := jQ BT;rw [HD.o];clear hd BT hE hF hS hr;have P0 := S0.o;obtain ⟨⟨⟨⟨f0, f1⟩, f2, f3⟩, ⟨⟨c0, c1⟩, c2, c3⟩⟩, ⟨⟨⟨c4, c5⟩, c6, c7⟩, ⟨⟨c8, c9⟩, c10, c11, c12⟩⟩⟩ := T0.o _ P0;clear P0;go_enter Tryz.func24, Tryz.ntmps24;go_wp2_with fail;refine (CC.o _ S0.o).mono ?_;rintro ee w1 ⟨rfl, hb1⟩;have S1 := jQ (S0.o.next hb1);clear hb1 f0 f1 f2 f3 c0 c1 c2 c3 c4 c5 c6 c7 c8 c9 c10 c11 c12 S0;go_wp2_with fail;refine (HBT.o _).mono ?_;rintro ee w' ⟨rfl, rfl⟩;go_wp2_with fail;go_ret2;exact ⟨none, 0, rfl, Rd.nil _ _ _ _, Nat.le_refl _, S1.o.fs.b⟩
 rw [if_pos h0] at hd;have hne : (E != 0) = true := by simp [h0]
 have HD := jQ hd;rw [HD.o];clear hd BT hE hF hS h0;have P0 := S0.o;obtain ⟨⟨⟨⟨f0, f1⟩, f2, f3⟩, ⟨⟨c0, c1⟩, c2, c3⟩⟩, ⟨⟨⟨c4, c5⟩, c6, c7⟩, ⟨⟨c8, c9⟩, c10, c11, c12⟩⟩⟩ := T0.o _ P0;clear P0;go_enter Tryz.func24, Tryz.ntmps24;go_wp2_with fail;refine (CC.o _ S0.o).mono ?_;rintro ee w1 ⟨rfl, hb1⟩;have S1 := jQ (S0.o.next hb1);clear hb1 f0 f1 f2 f3 c0 c1 c2 c3 c4 c5 c6 c7 c8 c9 c10 c11 c12 S0;go_wp2_with fail;go_ret2;exact ⟨none, 0, rfl, Rd.nil _ _ _ _, Nat.le_refl _, S1.o.fs.b⟩
def Dd.foundAt (n : Int) (r : Bool) : Prop := decide (n ≥ 0) = r
theorem y6i (A : Option Addr) (c : Nat) (ys : List Dd.Bd) (x : Dd.Bd) (w : World) (hR : Rd w w.heap.size 4 A ys.length (bcells ys)) (hl : ys.length <= 1000000) :
  Calls Tryz.prog 113 #[.slice A ys.length c, .agg #[.int .i64 x.f, .int .i64 x.t, .int .i64 x.m, .int .i64 x.r]] w fun e w' => (∃ n : Int, e = .returned (.int .i64 n) /\ Dd.foundAt n (decide (x ∈ ys))) /\ Below w.heap.size w w' := by
 have HR := jQ hR;obtain ⟨r, hr⟩ := zE (decide (x ∈ ys));rw [hr];have HRR := jQ hr;clear hR hr;go_enter Tryz.func113, Tryz.ntmps113;go_upto_region 1 with fail;refine y0i (fun V => Below w.heap.size w V /\ Bk V w.heap.size 78 #[.int .i64 x.f, .int .i64 x.t, .int .i64 x.m, .int .i64 x.r]) ⟨(Below.refl w.heap.size w).alloc (Nat.le_refl _) _, Bk.new w 78 _⟩ ?_;rintro W ⟨hb0, hk0⟩;have HB := jQ hb0;have HK := jQ hk0;clear hb0 hk0;go_wp2_with fail;go_loopw [8] (fun I wr => ∃ k : Nat, k <= ys.length /\ I = .int .i64 k /\ (∀ j (h : j < ys.length), j < k -> x ≠ ys[j]) /\ Below w.heap.size w wr /\ Bk wr w.heap.size 78 #[.int .i64 x.f, .int .i64 x.t, .int .i64 x.m, .int .i64 x.r]) (fun I _ => ys.length - (intOf I).toNat)
 case atStart => exact ⟨0, Nat.zero_le _, rfl, (fun j h hj => absurd hj (by omega)), HB.o, HK.o⟩
 obtain ⟨k, hk, rfl, ha, hB, hK⟩ := hrel;have HA := jQ ha;have HBr := jQ hB;have HKr := jQ hK;have c0 := (hK.cell 0).trans rfl;have c1 := (hK.cell 1).trans rfl;have c2 := (hK.cell 2).trans rfl;have c3 := (hK.cell 3).trans rfl;have cl := hK.lt;clear ha hB hK HB HK;by_cases hlt : k < ys.length
 ·obtain ⟨b, off, rfl, hb, e0, e1, e2, e3⟩ := (HR.o.below HBr.o (Nat.le_refl _)).bound hlt;have hb2 : b < wr.heap.size := Nat.lt_of_lt_of_le hb HBr.o.size;obtain ⟨z, hz⟩ := zE (ys[k]);rw [hz] at e0 e1 e2 e3;have HZ := jQ hz;by_cases hxz : x = z
  ·have HIN := jQ (show decide (x ∈ ys) = true from decide_eq_true (by rw [hxz, <- hz]; exact List.getElem_mem hlt));subst hxz;clear hz;go_wp2_with fail;go_quiet (fail);go_wp2_with fail;go_ret;exact ⟨⟨_, rfl, by rw [<- HRR.o, HIN.o]; exact decide_eq_true (by omega)⟩, y05 HBr.o _⟩
  have HXZ := jQ hxz;have hne : ∀ Y : Prop, x.f = z.f -> x.t = z.t -> x.m = z.m -> x.r = z.r -> Y := fun Y h1 h2 h3 h4 => by
   obtain ⟨x1, x2, x3, x4⟩ := x;obtain ⟨z1, z2, z3, z4⟩ := z;dsimp only at h1 h2 h3 h4;subst h1 h2 h3 h4;exact absurd rfl hxz
  have HNE := jQ hne;clear hz hxz hne;go_wp2_with fail;refine wp_region_quiet_lit (by kernel_rfl) (by kernel_rfl) ?_
  repeat (quiet_step (fail))
  refine wpQuiet_step (fun K hK => ?_);rw [if_pos (by rfl)];refine ⟨.bool false, fun w' hw' => ?_, hK _ ?_⟩
  ·go_simp;by_cases q1 : x.f = z.f
   ·by_cases q2 : x.t = z.t
    ·by_cases q3 : x.m = z.m
     ·by_cases q4 : x.r = z.r
      ·exact HNE.o _ q1 q2 q3 q4
      simp [q1, q2, q3, q4]
     simp [q1, q2, q3]
    simp [q1, q2]
   simp [q1]
  clear hK K;refine wpQuiet_nil ?_;intro _ hw';obtain ⟨nq, hw''⟩ := hw';subst hw'';go_wp2_with fail;go_roundw
  case rel =>
   refine ⟨k + 1, by omega, by go_num, fun j h hj => ?_, y05 HBr.o _, HKr.o⟩;by_cases e : j = k
   ·subst e;rw [HZ.o];exact HXZ.o
   exact HA.o j h (by omega)
  case measure => simp [intOf]; omega
 have HNO := jQ (show decide (x ∈ ys) = false from decide_eq_false (by
  intro h;obtain ⟨j, hj, e⟩ := List.getElem_of_mem h;exact HA.o j hj (by omega) e.symm))
 obtain rfl : k = ys.length := by omega
 go_wp2_with fail;go_ret;exact ⟨⟨-1, rfl, by rw [<- HRR.o, HNO.o]; rfl⟩, HBr.o⟩
theorem y3i (A : Option Addr) (c : Nat) (ys : List Dd.Bd) (x : Dd.Bd) (w : World) (hR : Rd w w.heap.size 4 A ys.length (bcells ys)) (hl : ys.length <= 1000000) :
  Calls Tryz.prog 64 #[.slice A ys.length c, .agg #[.int .i64 x.f, .int .i64 x.t, .int .i64 x.m, .int .i64 x.r]] w fun e w' => e = .returned (.bool (decide (x ∈ ys))) /\ Below w.heap.size w w' := by
 have HR := jQ hR;clear hR;obtain ⟨r, hr⟩ := zE (decide (x ∈ ys));rw [hr];have HRR := jQ hr;clear hr;go_enter Tryz.func64, Tryz.ntmps64;go_upto_region 1 with fail;refine y0i (fun V => Below w.heap.size w V /\ Bk V w.heap.size 78 #[.int .i64 x.f, .int .i64 x.t, .int .i64 x.m, .int .i64 x.r]) ⟨(Below.refl w.heap.size w).alloc (Nat.le_refl _) _, Bk.new w 78 _⟩ ?_;rintro W ⟨hb0, hk0⟩;have HB := jQ hb0;have HK := jQ hk0;clear hb0 hk0;have HI := jQ (y6i A c ys x W ((HR.o.below HB.o (Nat.le_refl _)).more HB.o.size) hl);rw [HRR.o] at HI;have c0 := (HK.o.cell 0).trans rfl;have c1 := (HK.o.cell 1).trans rfl;have c2 := (HK.o.cell 2).trans rfl;have c3 := (HK.o.cell 3).trans rfl;have cl := HK.o.lt;go_wp2_with fail;refine HI.o.mono ?_;rintro e w2 ⟨⟨n, rfl, hn⟩, hb⟩;have hn : decide (n ≥ 0) = r := hn;have HB2 := jQ (HB.o.trans (hb.mono HB.o.size));clear hb;go_wp2_with fail;go_ret;exact ⟨rfl, HB2.o⟩
theorem yAd (g : Nat) (A : Option Addr) (c : Nat) (ys : List Dd.Bd) (x : Dd.Bd) (w : World) (hk : Bk w g 52 #[.slice A ys.length c]) (hR : Rd w w.heap.size 4 A ys.length (bcells ys)) (hl : ys.length <= 1000000) :
  Calls Tryz.prog 63 #[.agg #[.int .i64 x.f, .int .i64 x.t, .int .i64 x.m, .int .i64 x.r], .pointer (some ⟨g, 0, none⟩)] w fun e w' => e = .returned (.bool (!(decide (x ∈ ys)))) /\ Below w.heap.size w w' := by
 have HR := jQ hR;have HG := jQ hk;clear hR hk;obtain ⟨r, hr⟩ := zE (decide (x ∈ ys));rw [hr];have HRR := jQ hr;clear hr;go_enter Tryz.func63, Tryz.ntmps63;go_upto_region 1 with fail;refine y0i (fun V => Below w.heap.size w V /\ Bk V w.heap.size 78 #[.int .i64 x.f, .int .i64 x.t, .int .i64 x.m, .int .i64 x.r] /\ Bk V g 52 #[.slice A ys.length c]) ⟨(Below.refl w.heap.size w).alloc (Nat.le_refl _) _, Bk.new w 78 _, HG.o.alloc _⟩ ?_;rintro W ⟨hb0, hk0, hg0⟩;have HB := jQ hb0;have HK := jQ hk0;clear hb0 hk0;have HI := jQ (y3i A c ys x W ((HR.o.below HB.o (Nat.le_refl _)).more HB.o.size) hl);rw [HRR.o] at HI;have g0 := (hg0.cell 0).trans rfl;have gl := hg0.lt;clear hg0;have c0 := (HK.o.cell 0).trans rfl;have c1 := (HK.o.cell 1).trans rfl;have c2 := (HK.o.cell 2).trans rfl;have c3 := (HK.o.cell 3).trans rfl;have cl := HK.o.lt;go_wp2_with fail;refine HI.o.mono ?_;rintro e w2 ⟨rfl, hb⟩;have HB2 := jQ (HB.o.trans (hb.mono HB.o.size));clear hb;go_wp2_with fail;go_ret;exact ⟨rfl, HB2.o⟩
end

section
open Go.RowKit
theorem y1C {P : Program} {w : World} {ops : Array Oper} {rest : List Oper} {o : Oper} {a : Act} {Q : Exit -> Act -> World -> Prop} (hg : o.guard = none) (t e : TypeId) (x y : Operand) (ho : o.op = .buildSlice t 2 #[(0, x), (1, y)])
  (ie : TypeInfo) (z : Value) (hu : P.underlying t = some (.slice e)) (hie : P.info? e = some ie) (hz : ie.zero = some z) (hs : ie.size = 13) (c d : List Value) (hc : c.length = 13) (hd : d.length = 13) (hx : a.eval x = .agg c.toArray) (hy : a.eval y = .agg d.toArray)
  (h : wpList P ops Q rest (a.put o.dst (.slice (some ⟨w.heap.size, 0, none⟩) 2 2)) (w.alloc (.cells (c ++ d).toArray e))) : wpList P ops Q (o :: rest) a w := by
 refine Go.wpList_buildSlice hg t e 2 #[(0, x), (1, y)] ho (c ++ d).toArray ie z hu hie hz (by rw [hs]; decide) (by rw [hs]; decide) ?_ h;have h1 : (Value.agg c.toArray).cells.size = 13 := by show c.toArray.size = 13; simpa using hc
 have h2 : (Value.agg d.toArray).cells.size = 13 := by show d.toArray.size = 13; simpa using hd
 have := Go.Great.fill_whole (s := 13) (by decide) [Value.agg c.toArray, Value.agg d.toArray] ((Array.range (2 * ie.size)).map (z.cells[· % z.cells.size]!)) (fun v hv => by
  simp only [List.mem_cons, List.not_mem_nil, or_false] at hv;rcases hv with rfl | rfl
  ·exact h1
  exact h2) (by simp [hs])
 simp only [hs] at this ⊢;simp only [List.map_toArray, List.map_cons, List.map_nil, hx, hy];rw [show ([(0, Value.agg c.toArray), (1, Value.agg d.toArray)] : List (Nat × Value)) = (([Value.agg c.toArray, Value.agg d.toArray].zipIdx 0).map fun x => (x.2, x.1)) from rfl, this];simp [Value.cells]
theorem y0A {P : Program} {md : Region.Mode} {ops : Array Oper} {Q : Exit -> Act -> World -> Prop} {S : World -> Prop} {fuel : Nat} {listed : Array Bool} {a : Act} {W : World} (S' : World -> Prop) (h : S' W) (k : ∀ W', S' W' -> wpAnyH P md ops Q S fuel listed a W') : wpAnyH P md ops Q S fuel listed a W := k W h
structure Sm (w : World) (v : Fv) (f : Dd.Fd) (a b : Dd.Ca) (W : World) : Prop where
 bl : Below w.heap.size w W
 kF : Bk W w.heap.size 27 #[.slice v.a1 f.st.length v.c1, .slice v.a2 f.li.length v.c2, .slice v.a3 f.pa.length v.c3, .slice v.a4 f.va.length v.c4]
 kA : Bk W (w.heap.size + 1) 48 #[.int .u8 a.k, .int .i64 a.l, .int .i64 a.o, .int .i64 a.a, .int .i64 a.b, .int .i64 a.s, .int .i64 a.e, .int .i64 a.c.b, .int .i64 a.c.n, .int .i64 a.c.l, .int .i64 a.c.y, .int .i64 a.c.w, .int .i64 a.c.s]
 kB : Bk W (w.heap.size + 1 + 1) 48 #[.int .u8 b.k, .int .i64 b.l, .int .i64 b.o, .int .i64 b.a, .int .i64 b.b, .int .i64 b.s, .int .i64 b.e, .int .i64 b.c.b, .int .i64 b.c.n, .int .i64 b.c.l, .int .i64 b.c.y, .int .i64 b.c.w, .int .i64 b.c.s]
 r : FRd W w.heap.size v f
 sn : Sn W
 g0 : 8 < w.heap.size
section
variable {w W W' : World} {v : Fv} {f : Dd.Fd} {a b : Dd.Ca}
theorem Sm.next (h : Sm w v f a b W) (hb : Below W.heap.size W W') : Sm w v f a b W' :=
 ⟨h.bl.trans (hb.mono h.bl.size), h.kF.below hb h.kF.lt, h.kA.below hb h.kA.lt, h.kB.below hb h.kB.lt, h.r.below hb h.bl.size, h.sn.step hb, h.g0⟩
theorem Sm.far (h : Sm w v f a b W) {g : Nat} (hg : w.heap.size + 1 + 1 < g) (u : Value) : Sm w v f a b (W.setCell ⟨g, 0, none⟩ u) :=
 have hb : Below w.heap.size W (W.setCell ⟨g, 0, none⟩ u) := (Below.refl _ _).setCell (p := ⟨g, 0, none⟩) (by simp; omega) u
 ⟨h.bl.trans hb, h.kF.far (show w.heap.size ≠ g by omega) u, h.kA.far (show w.heap.size + 1 ≠ g by omega) u, h.kB.far (show w.heap.size + 1 + 1 ≠ g by omega) u, h.r.below hb (Nat.le_refl _), h.sn.below hb h.g0, h.g0⟩
theorem Sm.rd (h : Sm w v f a b W) : FRd W W.heap.size v f := h.r.more h.bl.size
theorem Sm.new (hF : FRd w w.heap.size v f) (hS : Sn w) : Sm w v f a b (((w.alloc (.cells #[.slice v.a1 f.st.length v.c1, .slice v.a2 f.li.length v.c2, .slice v.a3 f.pa.length v.c3, .slice v.a4 f.va.length v.c4] 27)).alloc (.cells #[.int .u8 a.k, .int .i64 a.l, .int .i64 a.o, .int .i64 a.a, .int .i64 a.b, .int .i64 a.s, .int .i64 a.e, .int .i64 a.c.b, .int .i64 a.c.n, .int .i64 a.c.l, .int .i64 a.c.y, .int .i64 a.c.w, .int .i64 a.c.s] 48)).alloc (.cells #[.int .u8 b.k, .int .i64 b.l, .int .i64 b.o, .int .i64 b.a, .int .i64 b.b, .int .i64 b.s, .int .i64 b.e, .int .i64 b.c.b, .int .i64 b.c.n, .int .i64 b.c.l, .int .i64 b.c.y, .int .i64 b.c.w, .int .i64 b.c.s] 48)) := by
 have h := Ck.new (x := a) hF hS;obtain ⟨w1, h1⟩ := zE (((w.alloc (.cells #[.slice v.a1 f.st.length v.c1, .slice v.a2 f.li.length v.c2, .slice v.a3 f.pa.length v.c3, .slice v.a4 f.va.length v.c4] 27)).alloc (.cells #[.int .u8 a.k, .int .i64 a.l, .int .i64 a.o, .int .i64 a.a, .int .i64 a.b, .int .i64 a.s, .int .i64 a.e, .int .i64 a.c.b, .int .i64 a.c.n, .int .i64 a.c.l, .int .i64 a.c.y, .int .i64 a.c.w, .int .i64 a.c.s] 48)));have z1 : w1.heap.size = w.heap.size + 1 + 1 := by rw [<- h1]; simp
 rw [h1] at h ⊢;clear h1;have b1 := (Below.refl w1.heap.size w1).alloc (Nat.le_refl _) (.cells #[.int .u8 b.k, .int .i64 b.l, .int .i64 b.o, .int .i64 b.a, .int .i64 b.b, .int .i64 b.s, .int .i64 b.e, .int .i64 b.c.b, .int .i64 b.c.n, .int .i64 b.c.l, .int .i64 b.c.y, .int .i64 b.c.w, .int .i64 b.c.s] 48);have k1 := Bk.new w1 48 #[.int .u8 b.k, .int .i64 b.l, .int .i64 b.o, .int .i64 b.a, .int .i64 b.b, .int .i64 b.s, .int .i64 b.e, .int .i64 b.c.b, .int .i64 b.c.n, .int .i64 b.c.l, .int .i64 b.c.y, .int .i64 b.c.w, .int .i64 b.c.s];rw [z1] at k1;have h2 := h.next b1;exact ⟨h2.fs.b, h2.fs.k, h2.kC, k1, h2.fs.r, h2.sn, hS.1⟩
theorem Sm.treeF (h : Sm w v f a b W) : ((W.cell? ⟨w.heap.size, 0, none⟩ = some (.slice v.a1 f.st.length v.c1) /\ W.cell? ⟨w.heap.size, 1, none⟩ = some (.slice v.a2 f.li.length v.c2)) /\
  W.cell? ⟨w.heap.size, 2, none⟩ = some (.slice v.a3 f.pa.length v.c3) /\ W.cell? ⟨w.heap.size, 3, none⟩ = some (.slice v.a4 f.va.length v.c4)) /\ w.heap.size < W.heap.size :=
 ⟨⟨⟨(h.kF.cell 0).trans rfl, (h.kF.cell 1).trans rfl⟩, (h.kF.cell 2).trans rfl, (h.kF.cell 3).trans rfl⟩, h.kF.lt⟩
def Sm2 (w : World) (v : Fv) (f : Dd.Fd) (a b : Dd.Ca) (g : Nat) (W : World) : Prop := Sm w v f a b W /\ Bk W g 48 #[.int .u8 a.k, .int .i64 a.l, .int .i64 a.o, .int .i64 a.a, .int .i64 a.b, .int .i64 a.s, .int .i64 a.e, .int .i64 a.c.b, .int .i64 a.c.n, .int .i64 a.c.l, .int .i64 a.c.y, .int .i64 a.c.w, .int .i64 a.c.s, .int .u8 b.k, .int .i64 b.l, .int .i64 b.o, .int .i64 b.a, .int .i64 b.b, .int .i64 b.s, .int .i64 b.e, .int .i64 b.c.b, .int .i64 b.c.n, .int .i64 b.c.l, .int .i64 b.c.y, .int .i64 b.c.w, .int .i64 b.c.s]
theorem Sm2.next {g : Nat} (h : Sm2 w v f a b g W) (hb : Below W.heap.size W W') : Sm2 w v f a b g W' := ⟨h.1.next hb, h.2.below hb h.2.lt⟩
theorem Sm2.treeA {g : Nat} (h : Sm2 w v f a b g W) : (((W.cell? ⟨g, 0, none⟩ = some (.int .u8 a.k) /\ W.cell? ⟨g, 1, none⟩ = some (.int .i64 a.l) /\ W.cell? ⟨g, 2, none⟩ = some (.int .i64 a.o)) /\ (W.cell? ⟨g, 3, none⟩ = some (.int .i64 a.a) /\ W.cell? ⟨g, 4, none⟩ = some (.int .i64 a.b) /\ W.cell? ⟨g, 5, none⟩ = some (.int .i64 a.s))) /\ (W.cell? ⟨g, 6, none⟩ = some (.int .i64 a.e) /\ W.cell? ⟨g, 7, none⟩ = some (.int .i64 a.c.b) /\ W.cell? ⟨g, 8, none⟩ = some (.int .i64 a.c.n)) /\ (W.cell? ⟨g, 9, none⟩ = some (.int .i64 a.c.l) /\ W.cell? ⟨g, 10, none⟩ = some (.int .i64 a.c.y) /\ W.cell? ⟨g, 11, none⟩ = some (.int .i64 a.c.w) /\ W.cell? ⟨g, 12, none⟩ = some (.int .i64 a.c.s))) /\ g < W.heap.size :=
 ⟨⟨⟨⟨(h.2.cell 0).trans rfl, (h.2.cell 1).trans rfl, (h.2.cell 2).trans rfl⟩, (h.2.cell 3).trans rfl, (h.2.cell 4).trans rfl, (h.2.cell 5).trans rfl⟩, ⟨(h.2.cell 6).trans rfl, (h.2.cell 7).trans rfl, (h.2.cell 8).trans rfl⟩, (h.2.cell 9).trans rfl, (h.2.cell 10).trans rfl, (h.2.cell 11).trans rfl, (h.2.cell 12).trans rfl⟩, h.2.lt⟩
theorem Sm2.treeB {g : Nat} (h : Sm2 w v f a b g W) : (((W.cell? ⟨g, 13, none⟩ = some (.int .u8 b.k) /\ W.cell? ⟨g, 14, none⟩ = some (.int .i64 b.l) /\ W.cell? ⟨g, 15, none⟩ = some (.int .i64 b.o)) /\ (W.cell? ⟨g, 16, none⟩ = some (.int .i64 b.a) /\ W.cell? ⟨g, 17, none⟩ = some (.int .i64 b.b) /\ W.cell? ⟨g, 18, none⟩ = some (.int .i64 b.s))) /\ (W.cell? ⟨g, 19, none⟩ = some (.int .i64 b.e) /\ W.cell? ⟨g, 20, none⟩ = some (.int .i64 b.c.b) /\ W.cell? ⟨g, 21, none⟩ = some (.int .i64 b.c.n)) /\ (W.cell? ⟨g, 22, none⟩ = some (.int .i64 b.c.l) /\ W.cell? ⟨g, 23, none⟩ = some (.int .i64 b.c.y) /\ W.cell? ⟨g, 24, none⟩ = some (.int .i64 b.c.w) /\ W.cell? ⟨g, 25, none⟩ = some (.int .i64 b.c.s))) /\ g < W.heap.size :=
 ⟨⟨⟨⟨(h.2.cell 13).trans rfl, (h.2.cell 14).trans rfl, (h.2.cell 15).trans rfl⟩, (h.2.cell 16).trans rfl, (h.2.cell 17).trans rfl, (h.2.cell 18).trans rfl⟩, ⟨(h.2.cell 19).trans rfl, (h.2.cell 20).trans rfl, (h.2.cell 21).trans rfl⟩, (h.2.cell 22).trans rfl, (h.2.cell 23).trans rfl, (h.2.cell 24).trans rfl, (h.2.cell 25).trans rfl⟩, h.2.lt⟩
end
theorem Rd.offS {W : World} {g : Nat} {A : Option Addr} {l : List Dd.Bd} {t : TypeId} (h : Rd W W.heap.size 4 A l.length (bcells l)) (hk : Bk W g t #[.slice none 0 0]) (u : Value) : Rd (W.setCell ⟨g, 0, none⟩ u) (W.setCell ⟨g, 0, none⟩ u).heap.size 4 A l.length (bcells l) := by
 refine ⟨h.1, fun hn => ?_⟩;obtain ⟨b, off, e, hb, hc⟩ := h.2 hn;have hne : g ≠ b := by
  rintro rfl;have h0 := hc 0 (by omega);rw [Nat.add_zero, hk.cell off] at h0;obtain ⟨x, r, rfl⟩ : ∃ x r, l = x :: r := by
   cases l with
   | nil => simp at hn
   | cons x r => exact ⟨x, r, rfl⟩
  rw [show (bcells (x :: r))[0]? = some (.int .i64 x.f) from rfl] at h0;cases off with
  | zero => simp at h0
  | succ o => simp at h0
 exact ⟨b, off, e, by simpa using hb, fun j hj => (World.cell?_setCell_far W ⟨g, 0, none⟩ ⟨b, off + j, none⟩ u hne).trans (hc j hj)⟩
theorem yCx (v : Fv) (f : Dd.Fd) (a b : Dd.Ca) (w : World) (hF : FRd w w.heap.size v f) (hS : Sn w) (ha : ¬ Dd.callE f a = 0) :
  Calls Tryz.prog 22 #[fval v f, caval a, caval b] w fun e w' => e = .returned (.tuple #[.bool false, .int .i64 (Dd.callE f a)]) /\ Below w.heap.size w w' := by
 have CA := jQ (fun W (h : Sm w v f a b W) => y0B v f a W h.rd h.sn);have CB := jQ (fun W (h : Sm w v f a b W) => y0B v f b W h.rd h.sn);obtain ⟨E, hE⟩ := zE (Dd.callE f a);rw [hE] at ha CA ⊢;have ea : (E != 0) = true := by simp [ha]
 clear hE ha;have S0 := jQ (Sm.new (a := a) (b := b) hF hS);obtain ⟨ib, hib, hyb0, hyb1, hyb2⟩ := info_parts y7n;have HI := jQ hib;have HI1 := jQ hyb0;have HI2 := jQ hyb1;simp only [y01, y03] at CA CB S0 ⊢;clear hF hS hib hyb0 hyb1 hyb2;obtain ⟨⟨⟨f0, f1⟩, f2, f3⟩, fl⟩ := S0.o.treeF;obtain ⟨⟨⟨⟨c0, c1, c2⟩, c3, c4, c5⟩, ⟨c6, c7, c8⟩, c9, c10, c11, c12⟩, cl⟩ := y0D S0.o.kA;obtain ⟨⟨⟨⟨d0, d1, d2⟩, d3, d4, d5⟩, ⟨d6, d7, d8⟩, d9, d10, d11, d12⟩, dl⟩ := y0D S0.o.kB;go_enter Tryz.func22, Tryz.ntmps22;go_upto_region 1 with fail;refine y0i (fun V => Sm w v f a b V /\ V.heap.size = w.heap.size + 1 + 1 + 1) ⟨S0.o, by simp⟩ ?_;rintro W0 ⟨hs, hz0⟩;have S1 := jQ hs;have HZ0 := jQ hz0;clear f0 f1 f2 f3 fl c0 c1 c2 c3 c4 c5 c6 c7 c8 c9 c10 c11 c12 cl d0 d1 d2 d3 d4 d5 d6 d7 d8 d9 d10 d11 d12 dl S0 hs hz0;obtain ⟨⟨⟨f0, f1⟩, f2, f3⟩, fl⟩ := S1.o.treeF;obtain ⟨⟨⟨⟨c0, c1, c2⟩, c3, c4, c5⟩, ⟨c6, c7, c8⟩, c9, c10, c11, c12⟩, cl⟩ := y0D S1.o.kA;obtain ⟨⟨⟨⟨d0, d1, d2⟩, d3, d4, d5⟩, ⟨d6, d7, d8⟩, d9, d10, d11, d12⟩, dl⟩ := y0D S1.o.kB;have hb2 := (Below.refl W0.heap.size W0).alloc (Nat.le_refl _) (.cells #[.int .u8 a.k, .int .i64 a.l, .int .i64 a.o, .int .i64 a.a, .int .i64 a.b, .int .i64 a.s, .int .i64 a.e, .int .i64 a.c.b, .int .i64 a.c.n, .int .i64 a.c.l, .int .i64 a.c.y, .int .i64 a.c.w, .int .i64 a.c.s, .int .u8 b.k, .int .i64 b.l, .int .i64 b.o, .int .i64 b.a, .int .i64 b.b, .int .i64 b.s, .int .i64 b.e, .int .i64 b.c.b, .int .i64 b.c.n, .int .i64 b.c.l, .int .i64 b.c.y, .int .i64 b.c.w, .int .i64 b.c.s] 48);have hk2 := Bk.new W0 48 #[.int .u8 a.k, .int .i64 a.l, .int .i64 a.o, .int .i64 a.a, .int .i64 a.b, .int .i64 a.s, .int .i64 a.e, .int .i64 a.c.b, .int .i64 a.c.n, .int .i64 a.c.l, .int .i64 a.c.y, .int .i64 a.c.w, .int .i64 a.c.s, .int .u8 b.k, .int .i64 b.l, .int .i64 b.o, .int .i64 b.a, .int .i64 b.b, .int .i64 b.s, .int .i64 b.e, .int .i64 b.c.b, .int .i64 b.c.n, .int .i64 b.c.l, .int .i64 b.c.y, .int .i64 b.c.w, .int .i64 b.c.s];have S2 := jQ (show Sm2 w v f a b W0.heap.size (W0.alloc (.cells #[.int .u8 a.k, .int .i64 a.l, .int .i64 a.o, .int .i64 a.a, .int .i64 a.b, .int .i64 a.s, .int .i64 a.e, .int .i64 a.c.b, .int .i64 a.c.n, .int .i64 a.c.l, .int .i64 a.c.y, .int .i64 a.c.w, .int .i64 a.c.s, .int .u8 b.k, .int .i64 b.l, .int .i64 b.o, .int .i64 b.a, .int .i64 b.b, .int .i64 b.s, .int .i64 b.e, .int .i64 b.c.b, .int .i64 b.c.n, .int .i64 b.c.l, .int .i64 b.c.y, .int .i64 b.c.w, .int .i64 b.c.s] 48)) from ⟨S1.o.next hb2, hk2⟩);clear hb2 hk2 S1;go_upto_region 2 with (refine y1C rfl 93 48 (.tmp 13) (.tmp 14) rfl ib _ Tryz.underlying93 HI.o HI1.o HI2.o [.int .u8 a.k, .int .i64 a.l, .int .i64 a.o, .int .i64 a.a, .int .i64 a.b, .int .i64 a.s, .int .i64 a.e, .int .i64 a.c.b, .int .i64 a.c.n, .int .i64 a.c.l, .int .i64 a.c.y, .int .i64 a.c.w, .int .i64 a.c.s] [.int .u8 b.k, .int .i64 b.l, .int .i64 b.o, .int .i64 b.a, .int .i64 b.b, .int .i64 b.s, .int .i64 b.e, .int .i64 b.c.b, .int .i64 b.c.n, .int .i64 b.c.l, .int .i64 b.c.y, .int .i64 b.c.w, .int .i64 b.c.s] rfl rfl rfl rfl ?_);go_loopw [17] (fun i wr => i = .int .i64 0 /\ Sm2 w v f a b W0.heap.size wr) (fun i _ => 2 - (intOf i).toNat)
 case atStart => exact ⟨rfl, S2.o⟩
 obtain ⟨rfl, hs⟩ := hrel;have S3 := jQ hs;clear hs;obtain ⟨⟨⟨f0, f1⟩, f2, f3⟩, fl⟩ := S3.o.1.treeF;obtain ⟨⟨⟨⟨c0, c1, c2⟩, c3, c4, c5⟩, ⟨c6, c7, c8⟩, c9, c10, c11, c12⟩, cl⟩ := S3.o.treeA;have hbn := Below.rowNew ((Below.refl wr.heap.size wr).alloc (Nat.le_refl _) (.cells #[.int .u8 0, .int .i64 0, .int .i64 0, .int .i64 0, .int .i64 0, .int .i64 0, .int .i64 0, .int .i64 0, .int .i64 0, .int .i64 0, .int .i64 0, .int .i64 0, .int .i64 0] 48)) (Nat.le_refl _) #[.int .u8 a.k, .int .i64 a.l, .int .i64 a.o, .int .i64 a.a, .int .i64 a.b, .int .i64 a.s, .int .i64 a.e, .int .i64 a.c.b, .int .i64 a.c.n, .int .i64 a.c.l, .int .i64 a.c.y, .int .i64 a.c.w, .int .i64 a.c.s];have S4n := jQ (S3.o.next hbn);have KD := jQ ((Bk.new wr 48 #[.int .u8 0, .int .i64 0, .int .i64 0, .int .i64 0, .int .i64 0, .int .i64 0, .int .i64 0, .int .i64 0, .int .i64 0, .int .i64 0, .int .i64 0, .int .i64 0, .int .i64 0]).row #[.int .u8 a.k, .int .i64 a.l, .int .i64 a.o, .int .i64 a.a, .int .i64 a.b, .int .i64 a.s, .int .i64 a.e, .int .i64 a.c.b, .int .i64 a.c.n, .int .i64 a.c.l, .int .i64 a.c.y, .int .i64 a.c.w, .int .i64 a.c.s]);clear hbn;go_upto_region 4 with (refine wpList_store_row rfl 48 (.tmp 9) (.tmp 20) rfl wr.heap.size _ rfl rfl 48 _ (Bk.new wr 48 #[.int .u8 0, .int .i64 0, .int .i64 0, .int .i64 0, .int .i64 0, .int .i64 0, .int .i64 0, .int .i64 0, .int .i64 0, .int .i64 0, .int .i64 0, .int .i64 0, .int .i64 0]) (by kernel_rfl) rfl (by kernel_rfl) ?_);refine y0i (fun V => Sm2 w v f a b W0.heap.size V /\ Bk V wr.heap.size 48 #[.int .u8 a.k, .int .i64 a.l, .int .i64 a.o, .int .i64 a.a, .int .i64 a.b, .int .i64 a.s, .int .i64 a.e, .int .i64 a.c.b, .int .i64 a.c.n, .int .i64 a.c.l, .int .i64 a.c.y, .int .i64 a.c.w, .int .i64 a.c.s]) ⟨S4n.o, KD.o⟩ ?_;rintro W4 ⟨hs, hkd⟩;have S4 := jQ hs;clear f0 f1 f2 f3 fl c0 c1 c2 c3 c4 c5 c6 c7 c8 c9 c10 c11 c12 cl KD S3 S4n hs;obtain ⟨⟨⟨⟨c0, c1, c2⟩, c3, c4, c5⟩, ⟨c6, c7, c8⟩, c9, c10, c11, c12⟩, cl⟩ := y0D hkd;obtain ⟨⟨⟨f0, f1⟩, f2, f3⟩, fl⟩ := S4.o.1.treeF;clear hkd;go_wp2_with fail;refine (CA.o _ S4.o.1).mono ?_;rintro e w5 ⟨rfl, hb⟩;have S5 := jQ (S4.o.next hb);clear f0 f1 f2 f3 fl c0 c1 c2 c3 c4 c5 c6 c7 c8 c9 c10 c11 c12 cl hb S4;go_wp2_with fail;go_ret2;exact ⟨rfl, S5.o.1.bl⟩
theorem yCy (v : Fv) (f : Dd.Fd) (a b : Dd.Ca) (w : World) (hF : FRd w w.heap.size v f) (hS : Sn w) (ha : Dd.callE f a = 0) (hb : ¬ Dd.callE f b = 0) :
  Calls Tryz.prog 22 #[fval v f, caval a, caval b] w fun e w' => e = .returned (.tuple #[.bool false, .int .i64 (Dd.callE f b)]) /\ Below w.heap.size w w' := by
 have CA := jQ (fun W (h : Sm w v f a b W) => y0B v f a W h.rd h.sn);have CB := jQ (fun W (h : Sm w v f a b W) => y0B v f b W h.rd h.sn);rw [ha] at CA;clear ha;obtain ⟨E, hE⟩ := zE (Dd.callE f b);rw [hE] at hb CB ⊢;have eb : (E != 0) = true := by simp [hb]
 clear hE hb;have S0 := jQ (Sm.new (a := a) (b := b) hF hS);obtain ⟨ib, hib, hyb0, hyb1, hyb2⟩ := info_parts y7n;have HI := jQ hib;have HI1 := jQ hyb0;have HI2 := jQ hyb1;simp only [y01, y03] at CA CB S0 ⊢;clear hF hS hib hyb0 hyb1 hyb2;obtain ⟨⟨⟨f0, f1⟩, f2, f3⟩, fl⟩ := S0.o.treeF;obtain ⟨⟨⟨⟨c0, c1, c2⟩, c3, c4, c5⟩, ⟨c6, c7, c8⟩, c9, c10, c11, c12⟩, cl⟩ := y0D S0.o.kA;obtain ⟨⟨⟨⟨d0, d1, d2⟩, d3, d4, d5⟩, ⟨d6, d7, d8⟩, d9, d10, d11, d12⟩, dl⟩ := y0D S0.o.kB;go_enter Tryz.func22, Tryz.ntmps22;go_upto_region 1 with fail;refine y0i (fun V => Sm w v f a b V /\ V.heap.size = w.heap.size + 1 + 1 + 1) ⟨S0.o, by simp⟩ ?_;rintro W0 ⟨hs, hz0⟩;have S1 := jQ hs;have HZ0 := jQ hz0;clear f0 f1 f2 f3 fl c0 c1 c2 c3 c4 c5 c6 c7 c8 c9 c10 c11 c12 cl d0 d1 d2 d3 d4 d5 d6 d7 d8 d9 d10 d11 d12 dl S0 hs hz0;obtain ⟨⟨⟨f0, f1⟩, f2, f3⟩, fl⟩ := S1.o.treeF;obtain ⟨⟨⟨⟨c0, c1, c2⟩, c3, c4, c5⟩, ⟨c6, c7, c8⟩, c9, c10, c11, c12⟩, cl⟩ := y0D S1.o.kA;obtain ⟨⟨⟨⟨d0, d1, d2⟩, d3, d4, d5⟩, ⟨d6, d7, d8⟩, d9, d10, d11, d12⟩, dl⟩ := y0D S1.o.kB;have hb2 := (Below.refl W0.heap.size W0).alloc (Nat.le_refl _) (.cells #[.int .u8 a.k, .int .i64 a.l, .int .i64 a.o, .int .i64 a.a, .int .i64 a.b, .int .i64 a.s, .int .i64 a.e, .int .i64 a.c.b, .int .i64 a.c.n, .int .i64 a.c.l, .int .i64 a.c.y, .int .i64 a.c.w, .int .i64 a.c.s, .int .u8 b.k, .int .i64 b.l, .int .i64 b.o, .int .i64 b.a, .int .i64 b.b, .int .i64 b.s, .int .i64 b.e, .int .i64 b.c.b, .int .i64 b.c.n, .int .i64 b.c.l, .int .i64 b.c.y, .int .i64 b.c.w, .int .i64 b.c.s] 48);have hk2 := Bk.new W0 48 #[.int .u8 a.k, .int .i64 a.l, .int .i64 a.o, .int .i64 a.a, .int .i64 a.b, .int .i64 a.s, .int .i64 a.e, .int .i64 a.c.b, .int .i64 a.c.n, .int .i64 a.c.l, .int .i64 a.c.y, .int .i64 a.c.w, .int .i64 a.c.s, .int .u8 b.k, .int .i64 b.l, .int .i64 b.o, .int .i64 b.a, .int .i64 b.b, .int .i64 b.s, .int .i64 b.e, .int .i64 b.c.b, .int .i64 b.c.n, .int .i64 b.c.l, .int .i64 b.c.y, .int .i64 b.c.w, .int .i64 b.c.s];have S2 := jQ (show Sm2 w v f a b W0.heap.size (W0.alloc (.cells #[.int .u8 a.k, .int .i64 a.l, .int .i64 a.o, .int .i64 a.a, .int .i64 a.b, .int .i64 a.s, .int .i64 a.e, .int .i64 a.c.b, .int .i64 a.c.n, .int .i64 a.c.l, .int .i64 a.c.y, .int .i64 a.c.w, .int .i64 a.c.s, .int .u8 b.k, .int .i64 b.l, .int .i64 b.o, .int .i64 b.a, .int .i64 b.b, .int .i64 b.s, .int .i64 b.e, .int .i64 b.c.b, .int .i64 b.c.n, .int .i64 b.c.l, .int .i64 b.c.y, .int .i64 b.c.w, .int .i64 b.c.s] 48)) from ⟨S1.o.next hb2, hk2⟩);clear hb2 hk2 S1;go_upto_region 2 with (refine y1C rfl 93 48 (.tmp 13) (.tmp 14) rfl ib _ Tryz.underlying93 HI.o HI1.o HI2.o [.int .u8 a.k, .int .i64 a.l, .int .i64 a.o, .int .i64 a.a, .int .i64 a.b, .int .i64 a.s, .int .i64 a.e, .int .i64 a.c.b, .int .i64 a.c.n, .int .i64 a.c.l, .int .i64 a.c.y, .int .i64 a.c.w, .int .i64 a.c.s] [.int .u8 b.k, .int .i64 b.l, .int .i64 b.o, .int .i64 b.a, .int .i64 b.b, .int .i64 b.s, .int .i64 b.e, .int .i64 b.c.b, .int .i64 b.c.n, .int .i64 b.c.l, .int .i64 b.c.y, .int .i64 b.c.w, .int .i64 b.c.s] rfl rfl rfl rfl ?_);go_loopw [17] (fun i wr => (i = .int .i64 0 ∨ i = .int .i64 1) /\ Sm2 w v f a b W0.heap.size wr) (fun i _ => 2 - (intOf i).toNat)
 case atStart => exact ⟨Or.inl rfl, S2.o⟩
 obtain ⟨rfl | rfl, hs⟩ := hrel
 ·have S3 := jQ hs;clear hs;obtain ⟨⟨⟨f0, f1⟩, f2, f3⟩, fl⟩ := S3.o.1.treeF;obtain ⟨⟨⟨⟨c0, c1, c2⟩, c3, c4, c5⟩, ⟨c6, c7, c8⟩, c9, c10, c11, c12⟩, cl⟩ := S3.o.treeA;have hbn := Below.rowNew ((Below.refl wr.heap.size wr).alloc (Nat.le_refl _) (.cells #[.int .u8 0, .int .i64 0, .int .i64 0, .int .i64 0, .int .i64 0, .int .i64 0, .int .i64 0, .int .i64 0, .int .i64 0, .int .i64 0, .int .i64 0, .int .i64 0, .int .i64 0] 48)) (Nat.le_refl _) #[.int .u8 a.k, .int .i64 a.l, .int .i64 a.o, .int .i64 a.a, .int .i64 a.b, .int .i64 a.s, .int .i64 a.e, .int .i64 a.c.b, .int .i64 a.c.n, .int .i64 a.c.l, .int .i64 a.c.y, .int .i64 a.c.w, .int .i64 a.c.s];have S4n := jQ (S3.o.next hbn);have KD := jQ ((Bk.new wr 48 #[.int .u8 0, .int .i64 0, .int .i64 0, .int .i64 0, .int .i64 0, .int .i64 0, .int .i64 0, .int .i64 0, .int .i64 0, .int .i64 0, .int .i64 0, .int .i64 0, .int .i64 0]).row #[.int .u8 a.k, .int .i64 a.l, .int .i64 a.o, .int .i64 a.a, .int .i64 a.b, .int .i64 a.s, .int .i64 a.e, .int .i64 a.c.b, .int .i64 a.c.n, .int .i64 a.c.l, .int .i64 a.c.y, .int .i64 a.c.w, .int .i64 a.c.s]);clear hbn;go_upto_region 4 with (refine wpList_store_row rfl 48 (.tmp 9) (.tmp 20) rfl wr.heap.size _ rfl rfl 48 _ (Bk.new wr 48 #[.int .u8 0, .int .i64 0, .int .i64 0, .int .i64 0, .int .i64 0, .int .i64 0, .int .i64 0, .int .i64 0, .int .i64 0, .int .i64 0, .int .i64 0, .int .i64 0, .int .i64 0]) (by kernel_rfl) rfl (by kernel_rfl) ?_);refine y0i (fun V => Sm2 w v f a b W0.heap.size V /\ Bk V wr.heap.size 48 #[.int .u8 a.k, .int .i64 a.l, .int .i64 a.o, .int .i64 a.a, .int .i64 a.b, .int .i64 a.s, .int .i64 a.e, .int .i64 a.c.b, .int .i64 a.c.n, .int .i64 a.c.l, .int .i64 a.c.y, .int .i64 a.c.w, .int .i64 a.c.s]) ⟨S4n.o, KD.o⟩ ?_;rintro W4 ⟨hs, hkd⟩;have S4 := jQ hs;clear f0 f1 f2 f3 fl c0 c1 c2 c3 c4 c5 c6 c7 c8 c9 c10 c11 c12 cl KD S3 S4n hs;obtain ⟨⟨⟨⟨c0, c1, c2⟩, c3, c4, c5⟩, ⟨c6, c7, c8⟩, c9, c10, c11, c12⟩, cl⟩ := y0D hkd;obtain ⟨⟨⟨f0, f1⟩, f2, f3⟩, fl⟩ := S4.o.1.treeF;clear hkd;go_wp2_with fail;refine (CA.o _ S4.o.1).mono ?_;rintro e w5 ⟨rfl, hb⟩;have S5 := jQ (S4.o.next hb);clear f0 f1 f2 f3 fl c0 c1 c2 c3 c4 c5 c6 c7 c8 c9 c10 c11 c12 cl hb S4;go_wp2_with fail;go_roundw
  case rel => exact ⟨Or.inr rfl, S5.o⟩
  case measure => simp [intOf]
 have S3 := jQ hs;clear hs;obtain ⟨⟨⟨f0, f1⟩, f2, f3⟩, fl⟩ := S3.o.1.treeF;obtain ⟨⟨⟨⟨c0, c1, c2⟩, c3, c4, c5⟩, ⟨c6, c7, c8⟩, c9, c10, c11, c12⟩, cl⟩ := S3.o.treeB;have hbn := Below.rowNew ((Below.refl wr.heap.size wr).alloc (Nat.le_refl _) (.cells #[.int .u8 0, .int .i64 0, .int .i64 0, .int .i64 0, .int .i64 0, .int .i64 0, .int .i64 0, .int .i64 0, .int .i64 0, .int .i64 0, .int .i64 0, .int .i64 0, .int .i64 0] 48)) (Nat.le_refl _) #[.int .u8 b.k, .int .i64 b.l, .int .i64 b.o, .int .i64 b.a, .int .i64 b.b, .int .i64 b.s, .int .i64 b.e, .int .i64 b.c.b, .int .i64 b.c.n, .int .i64 b.c.l, .int .i64 b.c.y, .int .i64 b.c.w, .int .i64 b.c.s];have S4n := jQ (S3.o.next hbn);have KD := jQ ((Bk.new wr 48 #[.int .u8 0, .int .i64 0, .int .i64 0, .int .i64 0, .int .i64 0, .int .i64 0, .int .i64 0, .int .i64 0, .int .i64 0, .int .i64 0, .int .i64 0, .int .i64 0, .int .i64 0]).row #[.int .u8 b.k, .int .i64 b.l, .int .i64 b.o, .int .i64 b.a, .int .i64 b.b, .int .i64 b.s, .int .i64 b.e, .int .i64 b.c.b, .int .i64 b.c.n, .int .i64 b.c.l, .int .i64 b.c.y, .int .i64 b.c.w, .int .i64 b.c.s]);clear hbn;go_upto_region 4 with (refine wpList_store_row rfl 48 (.tmp 9) (.tmp 20) rfl wr.heap.size _ rfl rfl 48 _ (Bk.new wr 48 #[.int .u8 0, .int .i64 0, .int .i64 0, .int .i64 0, .int .i64 0, .int .i64 0, .int .i64 0, .int .i64 0, .int .i64 0, .int .i64 0, .int .i64 0, .int .i64 0, .int .i64 0]) (by kernel_rfl) rfl (by kernel_rfl) ?_);refine y0i (fun V => Sm2 w v f a b W0.heap.size V /\ Bk V wr.heap.size 48 #[.int .u8 b.k, .int .i64 b.l, .int .i64 b.o, .int .i64 b.a, .int .i64 b.b, .int .i64 b.s, .int .i64 b.e, .int .i64 b.c.b, .int .i64 b.c.n, .int .i64 b.c.l, .int .i64 b.c.y, .int .i64 b.c.w, .int .i64 b.c.s]) ⟨S4n.o, KD.o⟩ ?_;rintro W4 ⟨hs, hkd⟩;have S4 := jQ hs;clear f0 f1 f2 f3 fl c0 c1 c2 c3 c4 c5 c6 c7 c8 c9 c10 c11 c12 cl KD S3 S4n hs;obtain ⟨⟨⟨⟨c0, c1, c2⟩, c3, c4, c5⟩, ⟨c6, c7, c8⟩, c9, c10, c11, c12⟩, cl⟩ := y0D hkd;obtain ⟨⟨⟨f0, f1⟩, f2, f3⟩, fl⟩ := S4.o.1.treeF;clear hkd;go_wp2_with fail;refine (CB.o _ S4.o.1).mono ?_;rintro e w5 ⟨rfl, hb⟩;have S5 := jQ (S4.o.next hb);clear f0 f1 f2 f3 fl c0 c1 c2 c3 c4 c5 c6 c7 c8 c9 c10 c11 c12 cl hb S4;go_wp2_with fail;go_ret2;exact ⟨rfl, S5.o.1.bl⟩
theorem yCY (v : Fv) (f : Dd.Fd) (a b : Dd.Ca) (w : World) (hF : FRd w w.heap.size v f) (hS : Sn w) (ha : Dd.callE f a = 0) (hb : Dd.callE f b = 0) :
  Calls Tryz.prog 22 #[fval v f, caval a, caval b] w fun e w' => e = .returned (.tuple #[.bool (decide ((Dd.bnds f a 0).length = (Dd.bnds f b 0).length) && Dd.sub (Dd.bnds f a 0) (Dd.bnds f b 0)), .int .i64 0]) /\ Below w.heap.size w w' := by
 have CA := jQ (fun W (h : Sm w v f a b W) => y0B v f a W h.rd h.sn);have CB := jQ (fun W (h : Sm w v f a b W) => y0B v f b W h.rd h.sn);have BA := jQ (fun W (h : Sm w v f a b W) => y1J v f a 0 W h.rd h.sn);have BB := jQ (fun W (h : Sm w v f a b W) => y1J v f b 0 W h.rd h.sn);have EA := jQ ha;have EB := jQ hb;rw [ha] at CA;rw [hb] at CB;have hn1 : (Dd.bnds f a 0).length <= 1000000 := by rw [Dd.y1s]; have h1 := Dd.y2C ha; have h2 := (Dd.y0G (Dd.y0F ha).1).2.2.1; omega
 have hn2 : (Dd.bnds f b 0).length <= 1000000 := by rw [Dd.y1s]; have h1 := Dd.y2C hb; have h2 := (Dd.y0G (Dd.y0F ha).1).2.2.1; omega
 obtain ⟨l1, hl1⟩ := zE (Dd.bnds f a 0);obtain ⟨l2, hl2⟩ := zE (Dd.bnds f b 0);rw [hl1] at hn1 ⊢;rw [hl2] at hn2 ⊢;have L1 := jQ hl1;have L2 := jQ hl2;have HN1 := jQ hn1;have HN2 := jQ hn2;clear hl1 hl2 ha hb hn1 hn2;simp only [y01, y03] at BA BB;have S0 := jQ (Sm.new (a := a) (b := b) hF hS);obtain ⟨ib, hib, hyb0, hyb1, hyb2⟩ := info_parts y7n;have HI := jQ hib;have HI1 := jQ hyb0;have HI2 := jQ hyb1;simp only [y01, y03] at CA CB S0 ⊢;clear hF hS hib hyb0 hyb1 hyb2;obtain ⟨⟨⟨f0, f1⟩, f2, f3⟩, fl⟩ := S0.o.treeF;obtain ⟨⟨⟨⟨c0, c1, c2⟩, c3, c4, c5⟩, ⟨c6, c7, c8⟩, c9, c10, c11, c12⟩, cl⟩ := y0D S0.o.kA;obtain ⟨⟨⟨⟨d0, d1, d2⟩, d3, d4, d5⟩, ⟨d6, d7, d8⟩, d9, d10, d11, d12⟩, dl⟩ := y0D S0.o.kB;go_enter Tryz.func22, Tryz.ntmps22;go_upto_region 1 with fail;refine y0i (fun V => Sm w v f a b V /\ V.heap.size = w.heap.size + 1 + 1 + 1) ⟨S0.o, by simp⟩ ?_;rintro W0 ⟨hs, hz0⟩;have S1 := jQ hs;have HZ0 := jQ hz0;clear f0 f1 f2 f3 fl c0 c1 c2 c3 c4 c5 c6 c7 c8 c9 c10 c11 c12 cl d0 d1 d2 d3 d4 d5 d6 d7 d8 d9 d10 d11 d12 dl S0 hs hz0;obtain ⟨⟨⟨f0, f1⟩, f2, f3⟩, fl⟩ := S1.o.treeF;obtain ⟨⟨⟨⟨c0, c1, c2⟩, c3, c4, c5⟩, ⟨c6, c7, c8⟩, c9, c10, c11, c12⟩, cl⟩ := y0D S1.o.kA;obtain ⟨⟨⟨⟨d0, d1, d2⟩, d3, d4, d5⟩, ⟨d6, d7, d8⟩, d9, d10, d11, d12⟩, dl⟩ := y0D S1.o.kB;have hb2 := (Below.refl W0.heap.size W0).alloc (Nat.le_refl _) (.cells #[.int .u8 a.k, .int .i64 a.l, .int .i64 a.o, .int .i64 a.a, .int .i64 a.b, .int .i64 a.s, .int .i64 a.e, .int .i64 a.c.b, .int .i64 a.c.n, .int .i64 a.c.l, .int .i64 a.c.y, .int .i64 a.c.w, .int .i64 a.c.s, .int .u8 b.k, .int .i64 b.l, .int .i64 b.o, .int .i64 b.a, .int .i64 b.b, .int .i64 b.s, .int .i64 b.e, .int .i64 b.c.b, .int .i64 b.c.n, .int .i64 b.c.l, .int .i64 b.c.y, .int .i64 b.c.w, .int .i64 b.c.s] 48);have hk2 := Bk.new W0 48 #[.int .u8 a.k, .int .i64 a.l, .int .i64 a.o, .int .i64 a.a, .int .i64 a.b, .int .i64 a.s, .int .i64 a.e, .int .i64 a.c.b, .int .i64 a.c.n, .int .i64 a.c.l, .int .i64 a.c.y, .int .i64 a.c.w, .int .i64 a.c.s, .int .u8 b.k, .int .i64 b.l, .int .i64 b.o, .int .i64 b.a, .int .i64 b.b, .int .i64 b.s, .int .i64 b.e, .int .i64 b.c.b, .int .i64 b.c.n, .int .i64 b.c.l, .int .i64 b.c.y, .int .i64 b.c.w, .int .i64 b.c.s];have S2 := jQ (show Sm2 w v f a b W0.heap.size (W0.alloc (.cells #[.int .u8 a.k, .int .i64 a.l, .int .i64 a.o, .int .i64 a.a, .int .i64 a.b, .int .i64 a.s, .int .i64 a.e, .int .i64 a.c.b, .int .i64 a.c.n, .int .i64 a.c.l, .int .i64 a.c.y, .int .i64 a.c.w, .int .i64 a.c.s, .int .u8 b.k, .int .i64 b.l, .int .i64 b.o, .int .i64 b.a, .int .i64 b.b, .int .i64 b.s, .int .i64 b.e, .int .i64 b.c.b, .int .i64 b.c.n, .int .i64 b.c.l, .int .i64 b.c.y, .int .i64 b.c.w, .int .i64 b.c.s] 48)) from ⟨S1.o.next hb2, hk2⟩);clear hb2 hk2 S1;go_upto_region 2 with (refine y1C rfl 93 48 (.tmp 13) (.tmp 14) rfl ib _ Tryz.underlying93 HI.o HI1.o HI2.o [.int .u8 a.k, .int .i64 a.l, .int .i64 a.o, .int .i64 a.a, .int .i64 a.b, .int .i64 a.s, .int .i64 a.e, .int .i64 a.c.b, .int .i64 a.c.n, .int .i64 a.c.l, .int .i64 a.c.y, .int .i64 a.c.w, .int .i64 a.c.s] [.int .u8 b.k, .int .i64 b.l, .int .i64 b.o, .int .i64 b.a, .int .i64 b.b, .int .i64 b.s, .int .i64 b.e, .int .i64 b.c.b, .int .i64 b.c.n, .int .i64 b.c.l, .int .i64 b.c.y, .int .i64 b.c.w, .int .i64 b.c.s] rfl rfl rfl rfl ?_);go_loopw [17] (fun i wr => (i = .int .i64 0 ∨ i = .int .i64 1 ∨ i = .int .i64 2) /\ Sm2 w v f a b W0.heap.size wr) (fun i _ => 2 - (intOf i).toNat)
 case atStart => exact ⟨Or.inl rfl, S2.o⟩
 obtain ⟨rfl | rfl | rfl, hs⟩ := hrel
 ·have S3 := jQ hs;clear hs;obtain ⟨⟨⟨f0, f1⟩, f2, f3⟩, fl⟩ := S3.o.1.treeF;obtain ⟨⟨⟨⟨c0, c1, c2⟩, c3, c4, c5⟩, ⟨c6, c7, c8⟩, c9, c10, c11, c12⟩, cl⟩ := S3.o.treeA;have hbn := Below.rowNew ((Below.refl wr.heap.size wr).alloc (Nat.le_refl _) (.cells #[.int .u8 0, .int .i64 0, .int .i64 0, .int .i64 0, .int .i64 0, .int .i64 0, .int .i64 0, .int .i64 0, .int .i64 0, .int .i64 0, .int .i64 0, .int .i64 0, .int .i64 0] 48)) (Nat.le_refl _) #[.int .u8 a.k, .int .i64 a.l, .int .i64 a.o, .int .i64 a.a, .int .i64 a.b, .int .i64 a.s, .int .i64 a.e, .int .i64 a.c.b, .int .i64 a.c.n, .int .i64 a.c.l, .int .i64 a.c.y, .int .i64 a.c.w, .int .i64 a.c.s];have S4n := jQ (S3.o.next hbn);have KD := jQ ((Bk.new wr 48 #[.int .u8 0, .int .i64 0, .int .i64 0, .int .i64 0, .int .i64 0, .int .i64 0, .int .i64 0, .int .i64 0, .int .i64 0, .int .i64 0, .int .i64 0, .int .i64 0, .int .i64 0]).row #[.int .u8 a.k, .int .i64 a.l, .int .i64 a.o, .int .i64 a.a, .int .i64 a.b, .int .i64 a.s, .int .i64 a.e, .int .i64 a.c.b, .int .i64 a.c.n, .int .i64 a.c.l, .int .i64 a.c.y, .int .i64 a.c.w, .int .i64 a.c.s]);clear hbn;go_upto_region 4 with (refine wpList_store_row rfl 48 (.tmp 9) (.tmp 20) rfl wr.heap.size _ rfl rfl 48 _ (Bk.new wr 48 #[.int .u8 0, .int .i64 0, .int .i64 0, .int .i64 0, .int .i64 0, .int .i64 0, .int .i64 0, .int .i64 0, .int .i64 0, .int .i64 0, .int .i64 0, .int .i64 0, .int .i64 0]) (by kernel_rfl) rfl (by kernel_rfl) ?_);refine y0i (fun V => Sm2 w v f a b W0.heap.size V /\ Bk V wr.heap.size 48 #[.int .u8 a.k, .int .i64 a.l, .int .i64 a.o, .int .i64 a.a, .int .i64 a.b, .int .i64 a.s, .int .i64 a.e, .int .i64 a.c.b, .int .i64 a.c.n, .int .i64 a.c.l, .int .i64 a.c.y, .int .i64 a.c.w, .int .i64 a.c.s]) ⟨S4n.o, KD.o⟩ ?_;rintro W4 ⟨hs, hkd⟩;have S4 := jQ hs;clear f0 f1 f2 f3 fl c0 c1 c2 c3 c4 c5 c6 c7 c8 c9 c10 c11 c12 cl KD S3 S4n hs;obtain ⟨⟨⟨⟨c0, c1, c2⟩, c3, c4, c5⟩, ⟨c6, c7, c8⟩, c9, c10, c11, c12⟩, cl⟩ := y0D hkd;obtain ⟨⟨⟨f0, f1⟩, f2, f3⟩, fl⟩ := S4.o.1.treeF;clear hkd;go_wp2_with fail;refine (CA.o _ S4.o.1).mono ?_;rintro e w5 ⟨rfl, hb⟩;have S5 := jQ (S4.o.next hb);clear f0 f1 f2 f3 fl c0 c1 c2 c3 c4 c5 c6 c7 c8 c9 c10 c11 c12 cl hb S4;go_wp2_with fail;go_roundw
  case rel => exact ⟨Or.inr (Or.inl rfl), S5.o⟩
  case measure => simp [intOf]
 ·have S3 := jQ hs;clear hs;obtain ⟨⟨⟨f0, f1⟩, f2, f3⟩, fl⟩ := S3.o.1.treeF;obtain ⟨⟨⟨⟨c0, c1, c2⟩, c3, c4, c5⟩, ⟨c6, c7, c8⟩, c9, c10, c11, c12⟩, cl⟩ := S3.o.treeB;have hbn := Below.rowNew ((Below.refl wr.heap.size wr).alloc (Nat.le_refl _) (.cells #[.int .u8 0, .int .i64 0, .int .i64 0, .int .i64 0, .int .i64 0, .int .i64 0, .int .i64 0, .int .i64 0, .int .i64 0, .int .i64 0, .int .i64 0, .int .i64 0, .int .i64 0] 48)) (Nat.le_refl _) #[.int .u8 b.k, .int .i64 b.l, .int .i64 b.o, .int .i64 b.a, .int .i64 b.b, .int .i64 b.s, .int .i64 b.e, .int .i64 b.c.b, .int .i64 b.c.n, .int .i64 b.c.l, .int .i64 b.c.y, .int .i64 b.c.w, .int .i64 b.c.s];have S4n := jQ (S3.o.next hbn);have KD := jQ ((Bk.new wr 48 #[.int .u8 0, .int .i64 0, .int .i64 0, .int .i64 0, .int .i64 0, .int .i64 0, .int .i64 0, .int .i64 0, .int .i64 0, .int .i64 0, .int .i64 0, .int .i64 0, .int .i64 0]).row #[.int .u8 b.k, .int .i64 b.l, .int .i64 b.o, .int .i64 b.a, .int .i64 b.b, .int .i64 b.s, .int .i64 b.e, .int .i64 b.c.b, .int .i64 b.c.n, .int .i64 b.c.l, .int .i64 b.c.y, .int .i64 b.c.w, .int .i64 b.c.s]);clear hbn;go_upto_region 4 with (refine wpList_store_row rfl 48 (.tmp 9) (.tmp 20) rfl wr.heap.size _ rfl rfl 48 _ (Bk.new wr 48 #[.int .u8 0, .int .i64 0, .int .i64 0, .int .i64 0, .int .i64 0, .int .i64 0, .int .i64 0, .int .i64 0, .int .i64 0, .int .i64 0, .int .i64 0, .int .i64 0, .int .i64 0]) (by kernel_rfl) rfl (by kernel_rfl) ?_);refine y0i (fun V => Sm2 w v f a b W0.heap.size V /\ Bk V wr.heap.size 48 #[.int .u8 b.k, .int .i64 b.l, .int .i64 b.o, .int .i64 b.a, .int .i64 b.b, .int .i64 b.s, .int .i64 b.e, .int .i64 b.c.b, .int .i64 b.c.n, .int .i64 b.c.l, .int .i64 b.c.y, .int .i64 b.c.w, .int .i64 b.c.s]) ⟨S4n.o, KD.o⟩ ?_;rintro W4 ⟨hs, hkd⟩;have S4 := jQ hs;clear f0 f1 f2 f3 fl c0 c1 c2 c3 c4 c5 c6 c7 c8 c9 c10 c11 c12 cl KD S3 S4n hs;obtain ⟨⟨⟨⟨c0, c1, c2⟩, c3, c4, c5⟩, ⟨c6, c7, c8⟩, c9, c10, c11, c12⟩, cl⟩ := y0D hkd;obtain ⟨⟨⟨f0, f1⟩, f2, f3⟩, fl⟩ := S4.o.1.treeF;clear hkd;go_wp2_with fail;refine (CB.o _ S4.o.1).mono ?_;rintro e w5 ⟨rfl, hb⟩;have S5 := jQ (S4.o.next hb);clear f0 f1 f2 f3 fl c0 c1 c2 c3 c4 c5 c6 c7 c8 c9 c10 c11 c12 cl hb S4;go_wp2_with fail;go_roundw
  case rel => exact ⟨Or.inr (Or.inr rfl), S5.o⟩
  case measure => simp [intOf]
 have Hs0 := jQ hs.1;clear hs S2;go_wp2_with fail
 go_cut [11, 12] (fun s11 s12 wx => ∃ A1 c1 A2 c2 g, s11 = .slice A1 l1.length c1 /\ s12 = .pointer (some ⟨g, 0, none⟩) /\ Bk wx g 52 #[.slice A2 l2.length c2] /\ Rd wx wx.heap.size 4 A1 l1.length (bcells l1) /\ Rd wx wx.heap.size 4 A2 l2.length (bcells l2) /\ Below w.heap.size w wx)
 case first =>
  refine wp_region_held_drew (S := fun V : World => Sm w v f a b V) (by kernel_rfl) (Hs0.o.next (Below.refl _ _).drew) (fun hHeld => ?_);simp only [List.size_toArray, List.length_cons, List.length_nil, Nat.reduceAdd, Array.replicate_succ, Array.replicate_zero, List.push_toArray, List.append_toArray, List.nil_append, List.cons_append];refine wpAnyH_take (i := 0) (v := .agg #[.slice v.a1 f.st.length v.c1, .slice v.a2 f.li.length v.c2, .slice v.a3 f.pa.length v.c3, .slice v.a4 f.va.length v.c4]) rfl (by kernel_rfl) (by kernel_rfl) (by kernel_rfl) (fun _ _ _ h => h) (Or.inl ⟨by rfl, ?_⟩) (by assumption) ?_
  ·(intro w9 hSw; exact y0g 27 (.tmp 3) rfl w.heap.size rfl 27 _ (0, 0) _ hSw.kF Tryz.underlying27 rfl (by kernel_rfl))
  (try simp only [Act.put, zC, zB])
  refine wpAnyH_take (i := 1) (v := .agg #[.int .u8 a.k, .int .i64 a.l, .int .i64 a.o, .int .i64 a.a, .int .i64 a.b, .int .i64 a.s, .int .i64 a.e, .int .i64 a.c.b, .int .i64 a.c.n, .int .i64 a.c.l, .int .i64 a.c.y, .int .i64 a.c.w, .int .i64 a.c.s]) rfl (by kernel_rfl) (by kernel_rfl) (by kernel_rfl) (fun _ _ _ h => h) (Or.inl ⟨by rfl, ?_⟩) (by assumption) ?_
  ·(intro w9 hSw; exact y0g 48 (.tmp 4) rfl (w.heap.size + 1) rfl 48 _ (0, 0) _ hSw.kA Tryz.underlying48 rfl (by kernel_rfl))
  (try simp only [Act.put, zC, zB])
  refine wpAnyH_take (i := 4) (v := .agg #[.slice v.a1 f.st.length v.c1, .slice v.a2 f.li.length v.c2, .slice v.a3 f.pa.length v.c3, .slice v.a4 f.va.length v.c4]) rfl (by kernel_rfl) (by kernel_rfl) (by kernel_rfl) (fun _ _ _ h => h) (Or.inl ⟨by rfl, ?_⟩) (by assumption) ?_
  ·(intro w9 hSw; exact y0g 27 (.tmp 3) rfl w.heap.size rfl 27 _ (0, 0) _ hSw.kF Tryz.underlying27 rfl (by kernel_rfl))
  (try simp only [Act.put, zC, zB])
  refine wpAnyH_take (i := 5) (v := .agg #[.int .u8 b.k, .int .i64 b.l, .int .i64 b.o, .int .i64 b.a, .int .i64 b.b, .int .i64 b.s, .int .i64 b.e, .int .i64 b.c.b, .int .i64 b.c.n, .int .i64 b.c.l, .int .i64 b.c.y, .int .i64 b.c.w, .int .i64 b.c.s]) rfl (by kernel_rfl) (by kernel_rfl) (by kernel_rfl) (fun _ _ _ h => h) (Or.inl ⟨by rfl, ?_⟩) (by assumption) ?_
  ·(intro w9 hSw; exact y0g 48 (.tmp 5) rfl (w.heap.size + 1 + 1) rfl 48 _ (0, 0) _ hSw.kB Tryz.underlying48 rfl (by kernel_rfl))
  (try simp only [Act.put, zC, zB])
  refine y0A (fun V => Sm w v f a b V) hHeld ?_;rintro V0 nS;clear Hs0;have Hs := jQ nS;clear nS;refine wpAnyH_ready (rs := [2, 8]) (by kernel_rfl) (by simp) ?_;refine AllReadyH.cons rfl (fun K hK => ?_) ?_
  ·skip
   go_simp
   go_at_call 57
   refine (BA.o _ Hs.o).mono ?_;rintro e V ⟨rfl, hy, hb, hz⟩
   (try go_wp2_with fail)
   refine hK.out _ _ (Hs.o.next hb) (fun hHeld => ?_);have HSN := jQ Hs.o.sn.1;clear hK K
   (try simp only [Act.put, zC, zB])
   refine y0A (fun V => (Sm w v f a b V) /\ (Yc V0.heap.size V0.heap.size (V0.heap.size + 1) (V0.heap.size + 1 + 1) v f a 0 V /\ V0.heap.size + 1 + 1 + 1 <= V.heap.size)) ⟨Hs.o.next hb, hy, hz⟩ ?_;rintro V1 ⟨ns, ny⟩;clear Hs hy hz V hb hHeld;have Hs := jQ ns;have Hy := jQ ny;clear ns ny;refine wpAnyH_ready (rs := [3, 8]) (by kernel_rfl) (by simp) ?_;refine AllReadyH.cons rfl (fun K hK => ?_) ?_
   ·skip
    go_simp
    go_at_call 61
    have hco := y0c V0.heap.size (V0.heap.size + 1) (V0.heap.size + 1 + 1) V0.heap.size v f a 0 EA.o _ Hy.o.1 (by have := Hy.o.2; omega) HSN.o;rw [L1.o] at hco;refine hco.mono ?_;clear hco;rintro e V ⟨A2, C2, rfl, hr, -, hb⟩
    (try go_wp2_with fail)
    refine hK.out _ _ (Hs.o.next hb) (fun hHeld => ?_);clear hK K
    (try simp only [Act.put, zC, zB])
    refine y0A (fun V => (Sm w v f a b V) /\ (Rd V V.heap.size 4 A2 l1.length (bcells l1))) ⟨Hs.o.next hb, hr⟩ ?_;rintro V2 ⟨ns, nr1⟩;clear Hs Hy hr V hb hHeld;have Hs := jQ ns;have Hr1 := jQ nr1;clear ns nr1;refine wpAnyH_ready (rs := [6, 8]) (by kernel_rfl) (by simp) ?_;refine AllReadyH.cons rfl (fun K hK => ?_) ?_
    ·skip
     go_simp
     go_at_call 57
     refine (BB.o _ Hs.o).mono ?_;rintro e V ⟨rfl, hy, hb, hz⟩
     (try go_wp2_with fail)
     refine hK.out _ _ (Hs.o.next hb) (fun hHeld => ?_);have HSN := jQ Hs.o.sn.1;clear hK K
     (try simp only [Act.put, zC, zB])
     refine y0A (fun V => (Sm w v f a b V) /\ (Rd V V.heap.size 4 A2 l1.length (bcells l1)) /\ (Yc V2.heap.size V2.heap.size (V2.heap.size + 1) (V2.heap.size + 1 + 1) v f b 0 V /\ V2.heap.size + 1 + 1 + 1 <= V.heap.size)) ⟨Hs.o.next hb, (Hr1.o.below hb (Nat.le_refl _)).more hb.size, hy, hz⟩ ?_;rintro V3 ⟨ns, nr1, ny⟩;clear Hs Hr1 hy hz V hb hHeld;have Hs := jQ ns;have Hr1 := jQ nr1;have Hy := jQ ny;clear ns nr1 ny;refine wpAnyH_ready (rs := [7, 8]) (by kernel_rfl) (by simp) ?_;refine AllReadyH.cons rfl (fun K hK => ?_) ?_
     ·skip
      go_simp
      go_at_call 61
      have hco := y0c V2.heap.size (V2.heap.size + 1) (V2.heap.size + 1 + 1) V2.heap.size v f b 0 EB.o _ Hy.o.1 (by have := Hy.o.2; omega) HSN.o;rw [L2.o] at hco;refine hco.mono ?_;clear hco;rintro e V ⟨A4, C4, rfl, hr, -, hb⟩
      (try go_wp2_with fail)
      refine hK.out _ _ (Hs.o.next hb) (fun hHeld => ?_);clear hK K
      (try simp only [Act.put, zC, zB])
      refine y0A (fun V => (Sm w v f a b V) /\ (Rd V V.heap.size 4 A2 l1.length (bcells l1)) /\ (Rd V V.heap.size 4 A4 l2.length (bcells l2))) ⟨Hs.o.next hb, (Hr1.o.below hb (Nat.le_refl _)).more hb.size, hr⟩ ?_;rintro V4 ⟨ns, nr1, nr2⟩;clear Hs Hr1 Hy hr V hb hHeld;have Hs := jQ ns;have Hr1 := jQ nr1;have Hr2 := jQ nr2;clear ns nr1 nr2;refine wpAnyH_ready (rs := [8]) (by kernel_rfl) (by simp) ?_;refine zA rfl fun K hK => ?_;go_simp;have hb := (Below.refl V4.heap.size V4).alloc (Nat.le_refl _) (.cells #[.slice none 0 0] 52);refine hK.out _ _ (Hs.o.next hb) (fun hHeld => ?_);have HG := jQ (show w.heap.size + 1 + 1 < V4.heap.size from Hs.o.kB.lt);clear hK K
      (try simp only [Act.put, zC, zB])
      refine y0A (fun V => (Sm w v f a b V) /\ (Rd V V.heap.size 4 A2 l1.length (bcells l1)) /\ (Rd V V.heap.size 4 A4 l2.length (bcells l2)) /\ (Bk V V4.heap.size 52 #[.slice none 0 0])) ⟨Hs.o.next hb, (Hr1.o.below hb (Nat.le_refl _)).more hb.size, (Hr2.o.below hb (Nat.le_refl _)).more hb.size, Bk.new V4 52 #[.slice none 0 0]⟩ ?_;rintro V5 ⟨ns, nr1, nr2, ng⟩;clear Hs Hr1 Hr2 hb hHeld;have Hs := jQ ns;have Hr1 := jQ nr1;have Hr2 := jQ nr2;have Hg := jQ ng;clear ns nr1 nr2 ng;refine wpAnyH_ready (rs := [9]) (by kernel_rfl) (by simp) ?_;refine zA rfl fun K hK => ?_;go_simp;refine hK.out _ _ Hs.o (fun hHeld => ?_);clear hK K
      (try simp only [Act.put, zC, zB])
      refine wpAnyH_ready (rs := [10]) (by kernel_rfl) (by simp) ?_;refine zA rfl fun K hK => ?_;have gc := (Hg.o.cell 0).trans rfl;have gf := Hg.o.frozen 0;have hgz := Hg.o.lt;have hgg : w.heap.size + 1 + 1 < V4.heap.size := HG.o;go_simp;refine hK.out _ _ (Hs.o.far hgg _) (fun hHeld => ?_);clear hK K;refine wpAnyH_done (by kernel_rfl) ?_ _
      (try simp only [Act.put, zC, zB])
      go_wp2_with fail;go_meet;exact ⟨A2, C2, A4, C4, V4.heap.size, rfl, rfl, (Hg.o.set 0 _), (Hr1.o.offS Hg.o _), (Hr2.o.offS Hg.o _), (Hs.o.far hgg _).bl⟩
     refine zA rfl fun K hK => ?_;go_simp;have hb := (Below.refl V3.heap.size V3).alloc (Nat.le_refl _) (.cells #[.slice none 0 0] 52);refine hK.out _ _ (Hs.o.next hb) (fun hHeld => ?_);have HG := jQ (show w.heap.size + 1 + 1 < V3.heap.size from Hs.o.kB.lt);clear hK K
     (try simp only [Act.put, zC, zB])
     refine y0A (fun V => (Sm w v f a b V) /\ (Rd V V.heap.size 4 A2 l1.length (bcells l1)) /\ (Yc V2.heap.size V2.heap.size (V2.heap.size + 1) (V2.heap.size + 1 + 1) v f b 0 V /\ V2.heap.size + 1 + 1 + 1 <= V.heap.size) /\ (Bk V V3.heap.size 52 #[.slice none 0 0])) ⟨Hs.o.next hb, (Hr1.o.below hb (Nat.le_refl _)).more hb.size, ⟨Hy.o.1.below hb (by have := Hy.o.2; omega) (by have := Hy.o.2; omega) (by have := Hy.o.2; omega) (by have := Hy.o.2; omega) (by have := Hy.o.2; have := Hs.o.g0; have := Hs.o.bl.size; omega), Nat.le_trans Hy.o.2 hb.size⟩, Bk.new V3 52 #[.slice none 0 0]⟩ ?_;rintro V6 ⟨ns, nr1, ny, ng⟩;clear Hs Hr1 Hy hb hHeld;have Hs := jQ ns;have Hr1 := jQ nr1;have Hy := jQ ny;have Hg := jQ ng;clear ns nr1 ny ng;refine wpAnyH_ready (rs := [7]) (by kernel_rfl) (by simp) ?_;refine zA rfl fun K hK => ?_;go_simp
     go_at_call 61
     have hco := y0c V2.heap.size (V2.heap.size + 1) (V2.heap.size + 1 + 1) V2.heap.size v f b 0 EB.o _ Hy.o.1 (by have := Hy.o.2; omega) HSN.o;rw [L2.o] at hco;refine hco.mono ?_;clear hco;rintro e V ⟨A7, C7, rfl, hr, -, hb⟩
     (try go_wp2_with fail)
     refine hK.out _ _ (Hs.o.next hb) (fun hHeld => ?_);clear hK K
     (try simp only [Act.put, zC, zB])
     refine y0A (fun V => (Sm w v f a b V) /\ (Rd V V.heap.size 4 A2 l1.length (bcells l1)) /\ (Rd V V.heap.size 4 A7 l2.length (bcells l2)) /\ (Bk V V3.heap.size 52 #[.slice none 0 0])) ⟨Hs.o.next hb, (Hr1.o.below hb (Nat.le_refl _)).more hb.size, hr, Hg.o.below hb Hg.o.lt⟩ ?_;rintro V7 ⟨ns, nr1, nr2, ng⟩;clear Hs Hr1 Hy Hg hr V hb hHeld;have Hs := jQ ns;have Hr1 := jQ nr1;have Hr2 := jQ nr2;have Hg := jQ ng;clear ns nr1 nr2 ng;refine wpAnyH_ready (rs := [9]) (by kernel_rfl) (by simp) ?_;refine zA rfl fun K hK => ?_;go_simp;refine hK.out _ _ Hs.o (fun hHeld => ?_);clear hK K
     (try simp only [Act.put, zC, zB])
     refine wpAnyH_ready (rs := [10]) (by kernel_rfl) (by simp) ?_;refine zA rfl fun K hK => ?_;have gc := (Hg.o.cell 0).trans rfl;have gf := Hg.o.frozen 0;have hgz := Hg.o.lt;have hgg : w.heap.size + 1 + 1 < V3.heap.size := HG.o;go_simp;refine hK.out _ _ (Hs.o.far hgg _) (fun hHeld => ?_);clear hK K;refine wpAnyH_done (by kernel_rfl) ?_ _
     (try simp only [Act.put, zC, zB])
     go_wp2_with fail;go_meet;exact ⟨A2, C2, A7, C7, V3.heap.size, rfl, rfl, (Hg.o.set 0 _), (Hr1.o.offS Hg.o _), (Hr2.o.offS Hg.o _), (Hs.o.far hgg _).bl⟩
    refine zA rfl fun K hK => ?_;go_simp;have hb := (Below.refl V2.heap.size V2).alloc (Nat.le_refl _) (.cells #[.slice none 0 0] 52);refine hK.out _ _ (Hs.o.next hb) (fun hHeld => ?_);have HG := jQ (show w.heap.size + 1 + 1 < V2.heap.size from Hs.o.kB.lt);clear hK K
    (try simp only [Act.put, zC, zB])
    refine y0A (fun V => (Sm w v f a b V) /\ (Rd V V.heap.size 4 A2 l1.length (bcells l1)) /\ (Bk V V2.heap.size 52 #[.slice none 0 0])) ⟨Hs.o.next hb, (Hr1.o.below hb (Nat.le_refl _)).more hb.size, Bk.new V2 52 #[.slice none 0 0]⟩ ?_;rintro V8 ⟨ns, nr1, ng⟩;clear Hs Hr1 hb hHeld;have Hs := jQ ns;have Hr1 := jQ nr1;have Hg := jQ ng;clear ns nr1 ng;refine wpAnyH_ready (rs := [6]) (by kernel_rfl) (by simp) ?_;refine zA rfl fun K hK => ?_;go_simp
    go_at_call 57
    refine (BB.o _ Hs.o).mono ?_;rintro e V ⟨rfl, hy, hb, hz⟩
    (try go_wp2_with fail)
    refine hK.out _ _ (Hs.o.next hb) (fun hHeld => ?_);have HSN := jQ Hs.o.sn.1;clear hK K
    (try simp only [Act.put, zC, zB])
    refine y0A (fun V => (Sm w v f a b V) /\ (Rd V V.heap.size 4 A2 l1.length (bcells l1)) /\ (Yc V8.heap.size V8.heap.size (V8.heap.size + 1) (V8.heap.size + 1 + 1) v f b 0 V /\ V8.heap.size + 1 + 1 + 1 <= V.heap.size) /\ (Bk V V2.heap.size 52 #[.slice none 0 0])) ⟨Hs.o.next hb, (Hr1.o.below hb (Nat.le_refl _)).more hb.size, ⟨hy, hz⟩, Hg.o.below hb Hg.o.lt⟩ ?_;rintro V9 ⟨ns, nr1, ny, ng⟩;clear Hs Hr1 Hg hy hz V hb hHeld;have Hs := jQ ns;have Hr1 := jQ nr1;have Hy := jQ ny;have Hg := jQ ng;clear ns nr1 ny ng;refine wpAnyH_ready (rs := [7]) (by kernel_rfl) (by simp) ?_;refine zA rfl fun K hK => ?_;go_simp
    go_at_call 61
    have hco := y0c V8.heap.size (V8.heap.size + 1) (V8.heap.size + 1 + 1) V8.heap.size v f b 0 EB.o _ Hy.o.1 (by have := Hy.o.2; omega) HSN.o;rw [L2.o] at hco;refine hco.mono ?_;clear hco;rintro e V ⟨A10, C10, rfl, hr, -, hb⟩
    (try go_wp2_with fail)
    refine hK.out _ _ (Hs.o.next hb) (fun hHeld => ?_);clear hK K
    (try simp only [Act.put, zC, zB])
    refine y0A (fun V => (Sm w v f a b V) /\ (Rd V V.heap.size 4 A2 l1.length (bcells l1)) /\ (Rd V V.heap.size 4 A10 l2.length (bcells l2)) /\ (Bk V V2.heap.size 52 #[.slice none 0 0])) ⟨Hs.o.next hb, (Hr1.o.below hb (Nat.le_refl _)).more hb.size, hr, Hg.o.below hb Hg.o.lt⟩ ?_;rintro V10 ⟨ns, nr1, nr2, ng⟩;clear Hs Hr1 Hy Hg hr V hb hHeld;have Hs := jQ ns;have Hr1 := jQ nr1;have Hr2 := jQ nr2;have Hg := jQ ng;clear ns nr1 nr2 ng;refine wpAnyH_ready (rs := [9]) (by kernel_rfl) (by simp) ?_;refine zA rfl fun K hK => ?_;go_simp;refine hK.out _ _ Hs.o (fun hHeld => ?_);clear hK K
    (try simp only [Act.put, zC, zB])
    refine wpAnyH_ready (rs := [10]) (by kernel_rfl) (by simp) ?_;refine zA rfl fun K hK => ?_;have gc := (Hg.o.cell 0).trans rfl;have gf := Hg.o.frozen 0;have hgz := Hg.o.lt;have hgg : w.heap.size + 1 + 1 < V2.heap.size := HG.o;go_simp;refine hK.out _ _ (Hs.o.far hgg _) (fun hHeld => ?_);clear hK K;refine wpAnyH_done (by kernel_rfl) ?_ _
    (try simp only [Act.put, zC, zB])
    go_wp2_with fail;go_meet;exact ⟨A2, C2, A10, C10, V2.heap.size, rfl, rfl, (Hg.o.set 0 _), (Hr1.o.offS Hg.o _), (Hr2.o.offS Hg.o _), (Hs.o.far hgg _).bl⟩
   refine zA rfl fun K hK => ?_;go_simp;have hb := (Below.refl V1.heap.size V1).alloc (Nat.le_refl _) (.cells #[.slice none 0 0] 52);refine hK.out _ _ (Hs.o.next hb) (fun hHeld => ?_);have HG := jQ (show w.heap.size + 1 + 1 < V1.heap.size from Hs.o.kB.lt);clear hK K
   (try simp only [Act.put, zC, zB])
   refine y0A (fun V => (Sm w v f a b V) /\ (Yc V0.heap.size V0.heap.size (V0.heap.size + 1) (V0.heap.size + 1 + 1) v f a 0 V /\ V0.heap.size + 1 + 1 + 1 <= V.heap.size) /\ (Bk V V1.heap.size 52 #[.slice none 0 0])) ⟨Hs.o.next hb, ⟨Hy.o.1.below hb (by have := Hy.o.2; omega) (by have := Hy.o.2; omega) (by have := Hy.o.2; omega) (by have := Hy.o.2; omega) (by have := Hy.o.2; have := Hs.o.g0; have := Hs.o.bl.size; omega), Nat.le_trans Hy.o.2 hb.size⟩, Bk.new V1 52 #[.slice none 0 0]⟩ ?_;rintro V11 ⟨ns, ny, ng⟩;clear Hs Hy hb hHeld;have Hs := jQ ns;have Hy := jQ ny;have Hg := jQ ng;clear ns ny ng;refine wpAnyH_ready (rs := [3]) (by kernel_rfl) (by simp) ?_;refine zA rfl fun K hK => ?_;go_simp
   go_at_call 61
   have hco := y0c V0.heap.size (V0.heap.size + 1) (V0.heap.size + 1 + 1) V0.heap.size v f a 0 EA.o _ Hy.o.1 (by have := Hy.o.2; omega) HSN.o;rw [L1.o] at hco;refine hco.mono ?_;clear hco;rintro e V ⟨A12, C12, rfl, hr, -, hb⟩
   (try go_wp2_with fail)
   refine hK.out _ _ (Hs.o.next hb) (fun hHeld => ?_);clear hK K
   (try simp only [Act.put, zC, zB])
   refine y0A (fun V => (Sm w v f a b V) /\ (Rd V V.heap.size 4 A12 l1.length (bcells l1)) /\ (Bk V V1.heap.size 52 #[.slice none 0 0])) ⟨Hs.o.next hb, hr, Hg.o.below hb Hg.o.lt⟩ ?_;rintro V12 ⟨ns, nr1, ng⟩;clear Hs Hy Hg hr V hb hHeld;have Hs := jQ ns;have Hr1 := jQ nr1;have Hg := jQ ng;clear ns nr1 ng;refine wpAnyH_ready (rs := [6]) (by kernel_rfl) (by simp) ?_;refine zA rfl fun K hK => ?_;go_simp
   go_at_call 57
   refine (BB.o _ Hs.o).mono ?_;rintro e V ⟨rfl, hy, hb, hz⟩
   (try go_wp2_with fail)
   refine hK.out _ _ (Hs.o.next hb) (fun hHeld => ?_);have HSN := jQ Hs.o.sn.1;clear hK K
   (try simp only [Act.put, zC, zB])
   refine y0A (fun V => (Sm w v f a b V) /\ (Rd V V.heap.size 4 A12 l1.length (bcells l1)) /\ (Yc V12.heap.size V12.heap.size (V12.heap.size + 1) (V12.heap.size + 1 + 1) v f b 0 V /\ V12.heap.size + 1 + 1 + 1 <= V.heap.size) /\ (Bk V V1.heap.size 52 #[.slice none 0 0])) ⟨Hs.o.next hb, (Hr1.o.below hb (Nat.le_refl _)).more hb.size, ⟨hy, hz⟩, Hg.o.below hb Hg.o.lt⟩ ?_;rintro V13 ⟨ns, nr1, ny, ng⟩;clear Hs Hr1 Hg hy hz V hb hHeld;have Hs := jQ ns;have Hr1 := jQ nr1;have Hy := jQ ny;have Hg := jQ ng;clear ns nr1 ny ng;refine wpAnyH_ready (rs := [7]) (by kernel_rfl) (by simp) ?_;refine zA rfl fun K hK => ?_;go_simp
   go_at_call 61
   have hco := y0c V12.heap.size (V12.heap.size + 1) (V12.heap.size + 1 + 1) V12.heap.size v f b 0 EB.o _ Hy.o.1 (by have := Hy.o.2; omega) HSN.o;rw [L2.o] at hco;refine hco.mono ?_;clear hco;rintro e V ⟨A14, C14, rfl, hr, -, hb⟩
   (try go_wp2_with fail)
   refine hK.out _ _ (Hs.o.next hb) (fun hHeld => ?_);clear hK K
   (try simp only [Act.put, zC, zB])
   refine y0A (fun V => (Sm w v f a b V) /\ (Rd V V.heap.size 4 A12 l1.length (bcells l1)) /\ (Rd V V.heap.size 4 A14 l2.length (bcells l2)) /\ (Bk V V1.heap.size 52 #[.slice none 0 0])) ⟨Hs.o.next hb, (Hr1.o.below hb (Nat.le_refl _)).more hb.size, hr, Hg.o.below hb Hg.o.lt⟩ ?_;rintro V14 ⟨ns, nr1, nr2, ng⟩;clear Hs Hr1 Hy Hg hr V hb hHeld;have Hs := jQ ns;have Hr1 := jQ nr1;have Hr2 := jQ nr2;have Hg := jQ ng;clear ns nr1 nr2 ng;refine wpAnyH_ready (rs := [9]) (by kernel_rfl) (by simp) ?_;refine zA rfl fun K hK => ?_;go_simp;refine hK.out _ _ Hs.o (fun hHeld => ?_);clear hK K
   (try simp only [Act.put, zC, zB])
   refine wpAnyH_ready (rs := [10]) (by kernel_rfl) (by simp) ?_;refine zA rfl fun K hK => ?_;have gc := (Hg.o.cell 0).trans rfl;have gf := Hg.o.frozen 0;have hgz := Hg.o.lt;have hgg : w.heap.size + 1 + 1 < V1.heap.size := HG.o;go_simp;refine hK.out _ _ (Hs.o.far hgg _) (fun hHeld => ?_);clear hK K;refine wpAnyH_done (by kernel_rfl) ?_ _
   (try simp only [Act.put, zC, zB])
   go_wp2_with fail;go_meet;exact ⟨A12, C12, A14, C14, V1.heap.size, rfl, rfl, (Hg.o.set 0 _), (Hr1.o.offS Hg.o _), (Hr2.o.offS Hg.o _), (Hs.o.far hgg _).bl⟩
  refine zA rfl fun K hK => ?_;go_simp;have hb := (Below.refl V0.heap.size V0).alloc (Nat.le_refl _) (.cells #[.slice none 0 0] 52);refine hK.out _ _ (Hs.o.next hb) (fun hHeld => ?_);have HG := jQ (show w.heap.size + 1 + 1 < V0.heap.size from Hs.o.kB.lt);clear hK K
  (try simp only [Act.put, zC, zB])
  refine y0A (fun V => (Sm w v f a b V) /\ (Bk V V0.heap.size 52 #[.slice none 0 0])) ⟨Hs.o.next hb, Bk.new V0 52 #[.slice none 0 0]⟩ ?_;rintro V15 ⟨ns, ng⟩;clear Hs hb hHeld;have Hs := jQ ns;have Hg := jQ ng;clear ns ng;refine wpAnyH_ready (rs := [2]) (by kernel_rfl) (by simp) ?_;refine zA rfl fun K hK => ?_;go_simp
  go_at_call 57
  refine (BA.o _ Hs.o).mono ?_;rintro e V ⟨rfl, hy, hb, hz⟩
  (try go_wp2_with fail)
  refine hK.out _ _ (Hs.o.next hb) (fun hHeld => ?_);have HSN := jQ Hs.o.sn.1;clear hK K
  (try simp only [Act.put, zC, zB])
  refine y0A (fun V => (Sm w v f a b V) /\ (Yc V15.heap.size V15.heap.size (V15.heap.size + 1) (V15.heap.size + 1 + 1) v f a 0 V /\ V15.heap.size + 1 + 1 + 1 <= V.heap.size) /\ (Bk V V0.heap.size 52 #[.slice none 0 0])) ⟨Hs.o.next hb, ⟨hy, hz⟩, Hg.o.below hb Hg.o.lt⟩ ?_;rintro V16 ⟨ns, ny, ng⟩;clear Hs Hg hy hz V hb hHeld;have Hs := jQ ns;have Hy := jQ ny;have Hg := jQ ng;clear ns ny ng;refine wpAnyH_ready (rs := [3]) (by kernel_rfl) (by simp) ?_;refine zA rfl fun K hK => ?_;go_simp
  go_at_call 61
  have hco := y0c V15.heap.size (V15.heap.size + 1) (V15.heap.size + 1 + 1) V15.heap.size v f a 0 EA.o _ Hy.o.1 (by have := Hy.o.2; omega) HSN.o;rw [L1.o] at hco;refine hco.mono ?_;clear hco;rintro e V ⟨A17, C17, rfl, hr, -, hb⟩
  (try go_wp2_with fail)
  refine hK.out _ _ (Hs.o.next hb) (fun hHeld => ?_);clear hK K
  (try simp only [Act.put, zC, zB])
  refine y0A (fun V => (Sm w v f a b V) /\ (Rd V V.heap.size 4 A17 l1.length (bcells l1)) /\ (Bk V V0.heap.size 52 #[.slice none 0 0])) ⟨Hs.o.next hb, hr, Hg.o.below hb Hg.o.lt⟩ ?_;rintro V17 ⟨ns, nr1, ng⟩;clear Hs Hy Hg hr V hb hHeld;have Hs := jQ ns;have Hr1 := jQ nr1;have Hg := jQ ng;clear ns nr1 ng;refine wpAnyH_ready (rs := [6]) (by kernel_rfl) (by simp) ?_;refine zA rfl fun K hK => ?_;go_simp
  go_at_call 57
  refine (BB.o _ Hs.o).mono ?_;rintro e V ⟨rfl, hy, hb, hz⟩
  (try go_wp2_with fail)
  refine hK.out _ _ (Hs.o.next hb) (fun hHeld => ?_);have HSN := jQ Hs.o.sn.1;clear hK K
  (try simp only [Act.put, zC, zB])
  refine y0A (fun V => (Sm w v f a b V) /\ (Rd V V.heap.size 4 A17 l1.length (bcells l1)) /\ (Yc V17.heap.size V17.heap.size (V17.heap.size + 1) (V17.heap.size + 1 + 1) v f b 0 V /\ V17.heap.size + 1 + 1 + 1 <= V.heap.size) /\ (Bk V V0.heap.size 52 #[.slice none 0 0])) ⟨Hs.o.next hb, (Hr1.o.below hb (Nat.le_refl _)).more hb.size, ⟨hy, hz⟩, Hg.o.below hb Hg.o.lt⟩ ?_;rintro V18 ⟨ns, nr1, ny, ng⟩;clear Hs Hr1 Hg hy hz V hb hHeld;have Hs := jQ ns;have Hr1 := jQ nr1;have Hy := jQ ny;have Hg := jQ ng;clear ns nr1 ny ng;refine wpAnyH_ready (rs := [7]) (by kernel_rfl) (by simp) ?_;refine zA rfl fun K hK => ?_;go_simp
  go_at_call 61
  have hco := y0c V17.heap.size (V17.heap.size + 1) (V17.heap.size + 1 + 1) V17.heap.size v f b 0 EB.o _ Hy.o.1 (by have := Hy.o.2; omega) HSN.o;rw [L2.o] at hco;refine hco.mono ?_;clear hco;rintro e V ⟨A19, C19, rfl, hr, -, hb⟩
  (try go_wp2_with fail)
  refine hK.out _ _ (Hs.o.next hb) (fun hHeld => ?_);clear hK K
  (try simp only [Act.put, zC, zB])
  refine y0A (fun V => (Sm w v f a b V) /\ (Rd V V.heap.size 4 A17 l1.length (bcells l1)) /\ (Rd V V.heap.size 4 A19 l2.length (bcells l2)) /\ (Bk V V0.heap.size 52 #[.slice none 0 0])) ⟨Hs.o.next hb, (Hr1.o.below hb (Nat.le_refl _)).more hb.size, hr, Hg.o.below hb Hg.o.lt⟩ ?_;rintro V19 ⟨ns, nr1, nr2, ng⟩;clear Hs Hr1 Hy Hg hr V hb hHeld;have Hs := jQ ns;have Hr1 := jQ nr1;have Hr2 := jQ nr2;have Hg := jQ ng;clear ns nr1 nr2 ng;refine wpAnyH_ready (rs := [9]) (by kernel_rfl) (by simp) ?_;refine zA rfl fun K hK => ?_;go_simp;refine hK.out _ _ Hs.o (fun hHeld => ?_);clear hK K
  (try simp only [Act.put, zC, zB])
  refine wpAnyH_ready (rs := [10]) (by kernel_rfl) (by simp) ?_;refine zA rfl fun K hK => ?_;have gc := (Hg.o.cell 0).trans rfl;have gf := Hg.o.frozen 0;have hgz := Hg.o.lt;have hgg : w.heap.size + 1 + 1 < V0.heap.size := HG.o;go_simp;refine hK.out _ _ (Hs.o.far hgg _) (fun hHeld => ?_);clear hK K;refine wpAnyH_done (by kernel_rfl) ?_ _
  (try simp only [Act.put, zC, zB])
  go_wp2_with fail;go_meet;exact ⟨A17, C17, A19, C19, V0.heap.size, rfl, rfl, (Hg.o.set 0 _), (Hr1.o.offS Hg.o _), (Hr2.o.offS Hg.o _), (Hs.o.far hgg _).bl⟩
 obtain ⟨A1, c1, A2, c2, g, rfl, rfl, hk, hr1, hr2, hB⟩ := hcut;have HCO := jQ (y9U 63 #[.pointer (some ⟨g, 0, none⟩)] (fun x => !(decide (x ∈ l2))) A1 c1 l1 wc hr1 HN1.o (enters_of Tryz.func63 (by kernel_rfl) rfl)
  (fun x hx W hb => yAd g A2 c2 l2 x W (hk.below hb hk.lt) ((hr2.below hb (Nat.le_refl _)).more hb.size) HN2.o))
 have g0 := (hk.cell 0).trans rfl;have gl := hk.lt;have HB := jQ hB;have hsub : Dd.sub l1 l2 = !(l1.any fun x => !(decide (x ∈ l2))) := by
  unfold Dd.sub;rw [List.not_any_eq_all_not];simp
 have HSUB := jQ hsub;clear hk hr1 hr2 hB hsub;by_cases hlen : l1.length = l2.length
 ·have q1 : ((l1.length : Int) == (l2.length : Int)) = true := by rw [hlen]; simp
  have HD := jQ (show decide (l1.length = l2.length) = true from decide_eq_true hlen);clear hlen;obtain ⟨z, hz⟩ := zE ((l1.any fun x => !(decide (x ∈ l2))));rw [hz] at HCO HSUB;clear hz;go_wp2_with fail;refine HCO.o.mono ?_;rintro e w9 ⟨rfl, hb9⟩;have HB9 := jQ (HB.o.trans (hb9.mono HB.o.size));clear hb9;go_wp2_with fail;go_ret2;exact ⟨by rw [HD.o, HSUB.o]; rfl, HB9.o⟩
 have q1 : ((l1.length : Int) == (l2.length : Int)) = false := beq_eq_false_iff_ne.2 (by omega);have HD := jQ (show decide (l1.length = l2.length) = false from decide_eq_false hlen);clear hlen;go_wp2_with fail;go_ret2;exact ⟨by rw [HD.o]; rfl, HB.o⟩
theorem y9c (v : Fv) (f : Dd.Fd) (a b : Dd.Ca) (w : World) (hF : FRd w w.heap.size v f) (hS : Sn w) : Calls Tryz.prog 22 #[fval v f, caval a, caval b] w fun e w' => e = .returned (.tuple #[.bool (Dd.sameF f a b).1, .int .i64 (Dd.sameF f a b).2]) /\ Below w.heap.size w w' := by
 unfold Dd.sameF;by_cases ha : Dd.callE f a = 0
 ·rw [if_neg (by simpa using ha)];by_cases hb : Dd.callE f b = 0
  ·rw [if_neg (by simpa using hb), <- Dd.yCX (Dd.y0F ha).2 (Dd.y0F hb).2];exact yCY v f a b w hF hS ha hb
  rw [if_pos hb];exact yCy v f a b w hF hS ha hb
 rw [if_pos ha];exact yCx v f a b w hF hS ha
end
end Go.Proofs.YtccikcpcfdjobaaGreatDoor
