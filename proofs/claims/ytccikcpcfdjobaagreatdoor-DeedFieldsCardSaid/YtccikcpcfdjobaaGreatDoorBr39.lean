/-
  What the claims of layer deed need of the texts DRm.
-/
import Derived.Test.YtccikcpcfdjobaaGreatDoorBr38
import Derived.Test.YtccikcpcfdjobaaGreatDoorBr35
import Derived.Test.YtccikcpcfdjobaaGreatDoorBr08
import Derived.Test.YtccikcpcfdjobaaGreatDoorBz
set_option linter.unusedVariables false
set_option linter.unusedSimpArgs false
set_option maxHeartbeats 8000000
set_option maxRecDepth 100000
namespace Go.Proofs.YtccikcpcfdjobaaGreatDoor
section
open Go.RowKit
theorem infoCa : (Tryz.prog.info? 48).map (fun i => (i.zero, i.size, i.bytes)) = some (some (.agg #[.int .u8 0, .int .i64 0, .int .i64 0, .int .i64 0, .int .i64 0, .int .i64 0, .int .i64 0, .int .i64 0, .int .i64 0, .int .i64 0, .int .i64 0, .int .i64 0, .int .i64 0]), 13, 104) := by kernel_rfl
theorem exec_load_row {P : Program} {ev : Operand → Value} {w : World} {o : Oper} (ty : TypeId) (x : Operand) (ho : o.op = .load ty x) (g : Nat) (hx : ev x = .pointer (some ⟨g, 0, none⟩)) (t : TypeId) (cs : Array Value) (fr : Nat × Nat) (d : TypeDesc) (hg : w.heap[g]? = some (.cells cs t fr))
  (hu : P.underlying ty = some d) (hd : (match d with | .struct _ | .array _ _ => true | _ => false) = true) (hi : (P.info? ty).map (·.size) = some cs.size) : (execOp ev o).run P w = .ok (.value (.agg cs)) w := by
 unfold execOp
 simp only [ho, hx, Instr.loadAt, Instr.sureAddr, Sem.run_bind, Sem.run_pure, Result.andThen_ok, run_loadVar_row w g t ty cs fr d hg hu hd hi]
def RmS (g gD gd m : Nat) (v : Fv) (f : Dd.Fd) (z : Dp) (d : Dd.Dr) (V : World) : Prop :=
  ((V.cell? ⟨g, 0, none⟩ = some (.slice v.a1 f.st.length v.c1) ∧ V.cell? ⟨g, 1, none⟩ = some (.slice v.a2 f.li.length v.c2)) ∧ (V.cell? ⟨g, 2, none⟩ = some (.slice v.a3 f.pa.length v.c3) ∧ V.cell? ⟨g, 3, none⟩ = some (.slice v.a4 f.va.length v.c4))) ∧
    ((V.cell? ⟨gd, m * 4 + 1, none⟩ = some (.int .i64 z.1.year) ∧ V.cell? ⟨gd, m * 4 + 3, none⟩ = some (.slice z.2.1 z.1.calls.length z.2.2)) ∧ V.heap[gD]? = some (.cells (drcells d).toArray 130 (0, 0)))
theorem RmS.but {g gD gd m : Nat} {v : Fv} {f : Dd.Fd} {z : Dp} {d : Dd.Dr} {V V' : World} {X : Nat → Prop} (h : RmS g gD gd m v f z d V) (hb : But X V V') (h1 : ¬ X g) (h2 : ¬ X gd) (h3 : ¬ X gD) (l1 : g < V.heap.size) (l2 : gd < V.heap.size) (l3 : gD < V.heap.size) : RmS g gD gd m v f z d V' := by
 obtain ⟨⟨⟨f0, f1⟩, f2, f3⟩, ⟨y1, y3⟩, kd⟩ := h
 have c : ∀ (k i : Nat) (u : Value), k < V.heap.size → ¬ X k → V.cell? ⟨k, i, none⟩ = some u → V'.cell? ⟨k, i, none⟩ = some u := fun k i u hk hx hc => (World.cell?_of_block (hb.block k hk hx)).trans hc
 exact ⟨⟨⟨c _ _ _ l1 h1 f0, c _ _ _ l1 h1 f1⟩, c _ _ _ l1 h1 f2, c _ _ _ l1 h1 f3⟩, ⟨c _ _ _ l2 h2 y1, c _ _ _ l2 h2 y3⟩, (hb.block _ l3 h3).trans kd⟩
theorem Rq.cells {w1 W : World} {F B g gd c : Nat} {v : Fv} {f : Dd.Fd} {qs : List Dp} {z : Dp} {R : Nat → Prop} {d : Dd.Dr} (h : Rq w1 F B g v f qs z gd c R d W) : RmS g w1.heap.size gd qs.length v f z d W := by
 obtain ⟨_, h2, h3, _⟩ := h.last
 exact ⟨⟨⟨(h.q.k.cell 0).trans rfl, (h.q.k.cell 1).trans rfl⟩, (h.q.k.cell 2).trans rfl, (h.q.k.cell 3).trans rfl⟩, ⟨h2, h3⟩, h.kd⟩
theorem readCallD_bad (F B g b : Nat) (v : Fv) (f : Dd.Fd) (qs : List Dp) (z : Dp) (A : Option Addr) (c : Nat) (R : Nat → Prop) (ws : List Cs.Bs) (V : World) (hE : Env V) (hz : Wz V b ws) (d : Dd.Dr) (r : List Cs.Bs) (hn : Dd.draftE ws = some (d, r)) (hQ : Dq V F B g v f (qs ++ [z]) A c R) (hbR : ¬ R b) (hFb : F ≤ b) (h9 : 9 ≤ b) (h0 : Dd.fieldE f = 0) (h20 : z.1.calls.length < 20) (hi : (Dd.inF f z.1.year d).1 ≠ 0) :
  Calls Tryz.prog 163 #[.pointer (some ⟨g, 0, none⟩), .pointer (some ⟨b, 0, none⟩)] V fun e V' => e = .panicked [pan (Dd.inF f z.1.year d).1] ∧ But (fun k => k = b) V V' := by
 obtain ⟨gd, rfl, _, _, _, _, _, hm⟩ := hQ.last
 have RD := jQ (readDraft_any b ws V hE hz)
 have HN := jQ hn
 have HQ := jQ hQ
 have HBR := jQ hbR
 have HE := jQ hE
 have H0 := jQ h0
 have HDM := jQ (draftM_bare hn)
 have HI := jQ hi
 obtain ⟨m, hmm⟩ : ∃ m, qs.length = m := ⟨_, rfl⟩
 have HMM := jQ hmm
 rw [hmm] at hm
 have hwm : IntKind.i64.wrap ((m : Int) + 1 - 1) = (m : Int) := by rw [IntWalk.i64_in _ (by omega)]; omega
 have hm0 : (0 : Int) ≤ (m : Int) := Int.natCast_nonneg _
 have hm1 : (m : Int) < (m : Int) + 1 := by omega
 have hgt : decide ((m : Int) + 1 > 0) = true := decide_eq_true (by omega)
 have hl20 : decide ((z.1.calls.length : Int) < 20) = true := decide_eq_true (by omega)
 clear hn hE hz hQ hbR hmm h0 hi
 go_enter Tryz.func163, Tryz.ntmps163
 go_wp2_with fail
 refine RD.o.mono ?_
 intro e w1 he
 obtain ⟨rfl, hb, hz1⟩ := he.some_ HN.o
 have HB := jQ hb
 have HKN := jQ (Bk.new w1 130 zero17)
 have S0 := jQ (show Rq w1 F B g v f qs z gd c R d (drw1 w1 d) from ⟨(HQ.o.keep hb (fun k hk => by rw [show k = b from hk]; exact ⟨HBR.o, hFb⟩)).keep (But.of (drw1_below w1 d) (X := fun _ => False)) (fun k hk => hk.elim), drw1_bk w1 d, drw1_below w1 d, (HE.o.but1 hb h9).step (drw1_below w1 d)⟩)
 obtain ⟨c4, d1, d3, _, hgl, hgd, _⟩ := S0.o.last
 have HWD := jQ (show (w1.alloc (.cells zero17 130)).setRow w1.heap.size (drcells d).toArray = drw1 w1 d from rfl)
 rw [HMM.o] at c4 d1 d3
 clear he hb hz1
 simp only [zero17] at HKN HWD
 go_wp2_with (refine wpList_store_row rfl 130 (.tmp 4) (.tmp 7) rfl w1.heap.size (drcells d).toArray rfl rfl 130 _ HKN.o (by kernel_rfl) rfl (by kernel_rfl) ?_; rw [HWD.o])
 refine (need_yes _ _).mono ?_
 rintro e w2 ⟨rfl, hb2⟩
 have S2 := jQ (S0.o.next hb2)
 clear hb2 c4 d1 d3 hgl hgd S0
 obtain ⟨c4, d1, d3, _, hgl, hgd, _⟩ := S2.o.last
 rw [HMM.o] at c4 d1 d3
 go_wp2_with fail
 go_quiet (fail)
 go_wp2_with fail
 refine (need_yes _ _).mono ?_
 rintro e w3 ⟨rfl, hb3⟩
 have S3 := jQ ((S2.o.next (below_drewN (Below.refl _ _) nq)).next hb3)
 have S4 := jQ (S3.o.next (Below.refl _ _).drew)
 have hZL := (S4.o.q.l2 z (by simp)).1
 clear hb3 c4 d1 d3 hgl hgd S2
 go_upto_region 4 with fail
 have hS4 := S4.o.cells
 rw [HMM.o] at hS4
 refine wp_region_held_drew (S := RmS g w1.heap.size gd m v f z d) (by kernel_rfl) hS4 (fun hHeld => ?_)
 simp only [List.size_toArray, List.length_cons, List.length_nil, Nat.reduceAdd, Array.replicate_succ, Array.replicate_zero, List.push_toArray, List.append_toArray, List.nil_append, List.cons_append]
 refine wpAnyH_take (i := 0) (v := ?_) rfl (by kernel_rfl) (by kernel_rfl) (by kernel_rfl) (fun _ _ _ h => h) (Or.inl ⟨by rfl, ?_⟩) (by assumption) ?_
 rotate_left
 ·(intro w hSw; obtain ⟨⟨⟨f0, f1⟩, f2, f3⟩, ⟨y1, y3⟩, kd⟩ := hSw; go_simp <;> with_reducible rfl)
 (try simp only [Act.put, List.getElem_toArray, List.getElem_cons_succ, List.getElem_cons_zero, List.setIfInBounds_toArray, List.set_cons_zero, List.set_cons_succ])
 refine wpAnyH_take (i := 1) (v := ?_) rfl (by kernel_rfl) (by kernel_rfl) (by kernel_rfl) (fun _ _ _ h => h) (Or.inl ⟨by rfl, ?_⟩) (by assumption) ?_
 rotate_left
 ·(intro w hSw; obtain ⟨⟨⟨f0, f1⟩, f2, f3⟩, ⟨y1, y3⟩, kd⟩ := hSw; go_simp <;> with_reducible rfl)
 (try simp only [Act.put, List.getElem_toArray, List.getElem_cons_succ, List.getElem_cons_zero, List.setIfInBounds_toArray, List.set_cons_zero, List.set_cons_succ])
 refine wpAnyH_take (i := 2) (v := ?_) rfl (by kernel_rfl) (by kernel_rfl) (by kernel_rfl) (fun _ _ _ h => h) (Or.inl ⟨by rfl, ?_⟩) (by assumption) ?_
 rotate_left
 ·(intro w hSw; obtain ⟨⟨⟨f0, f1⟩, f2, f3⟩, ⟨y1, y3⟩, kd⟩ := hSw; go_simp <;> with_reducible rfl)
 (try simp only [Act.put, List.getElem_toArray, List.getElem_cons_succ, List.getElem_cons_zero, List.setIfInBounds_toArray, List.set_cons_zero, List.set_cons_succ])
 refine wpAnyH_take (i := 3) (v := ?_) rfl (by kernel_rfl) (by kernel_rfl) (by kernel_rfl) (fun _ _ _ h => h) (Or.inl ⟨by rfl, ?_⟩) (by assumption) ?_
 rotate_left
 ·(intro w hSw; obtain ⟨⟨⟨f0, f1⟩, f2, f3⟩, ⟨y1, y3⟩, kd⟩ := hSw; go_simp <;> with_reducible rfl)
 (try simp only [Act.put, List.getElem_toArray, List.getElem_cons_succ, List.getElem_cons_zero, List.setIfInBounds_toArray, List.set_cons_zero, List.set_cons_succ])
 refine wpAnyH_take (i := 4) (v := ?_) rfl (by kernel_rfl) (by kernel_rfl) (by kernel_rfl) (fun _ _ _ h => h) (Or.inl ⟨by rfl, ?_⟩) (by assumption) ?_
 rotate_left
 ·(intro w hSw; obtain ⟨⟨⟨f0, f1⟩, f2, f3⟩, ⟨y1, y3⟩, kd⟩ := hSw; go_simp <;> with_reducible rfl)
 (try simp only [Act.put, List.getElem_toArray, List.getElem_cons_succ, List.getElem_cons_zero, List.setIfInBounds_toArray, List.set_cons_zero, List.set_cons_succ])
 refine wpAnyH_take (i := 5) (v := drval d) rfl (by kernel_rfl) (by kernel_rfl) (by kernel_rfl) (fun _ _ _ h => h) (Or.inl ⟨by rfl, ?_⟩) (by assumption) ?_
 ·(intro w hSw; obtain ⟨⟨⟨f0, f1⟩, f2, f3⟩, ⟨y1, y3⟩, kd⟩ := hSw; exact exec_load_row 130 (.tmp 4) rfl w1.heap.size rfl 130 _ (0, 0) _ kd Tryz.underlying130 rfl (by kernel_rfl))
 (try simp only [Act.put, List.getElem_toArray, List.getElem_cons_succ, List.getElem_cons_zero, List.setIfInBounds_toArray, List.set_cons_zero, List.set_cons_succ])
 refine wpAnyH_take (i := 6) (v := ?_) rfl (by kernel_rfl) (by kernel_rfl) (by kernel_rfl) (fun _ _ _ h => h) (Or.inl ⟨by rfl, ?_⟩) (by assumption) ?_
 rotate_left
 ·(intro w hSw; obtain ⟨⟨⟨f0, f1⟩, f2, f3⟩, ⟨y1, y3⟩, kd⟩ := hSw; go_simp <;> with_reducible rfl)
 (try simp only [Act.put, List.getElem_toArray, List.getElem_cons_succ, List.getElem_cons_zero, List.setIfInBounds_toArray, List.set_cons_zero, List.set_cons_succ])
 refine wpAnyH_take (i := 7) (v := ?_) rfl (by kernel_rfl) (by kernel_rfl) (by kernel_rfl) (fun _ _ _ h => h) (Or.inl ⟨by rfl, ?_⟩) (by assumption) ?_
 rotate_left
 ·(intro w hSw; obtain ⟨⟨⟨f0, f1⟩, f2, f3⟩, ⟨y1, y3⟩, kd⟩ := hSw; go_simp <;> with_reducible rfl)
 (try simp only [Act.put, List.getElem_toArray, List.getElem_cons_succ, List.getElem_cons_zero, List.setIfInBounds_toArray, List.set_cons_zero, List.set_cons_succ])
 refine wpAnyH_take (i := 8) (v := ?_) rfl (by kernel_rfl) (by kernel_rfl) (by kernel_rfl) (fun _ _ _ h => h) (Or.inl ⟨by rfl, ?_⟩) (by assumption) ?_
 rotate_left
 ·(intro w hSw; obtain ⟨⟨⟨f0, f1⟩, f2, f3⟩, ⟨y1, y3⟩, kd⟩ := hSw; go_simp <;> with_reducible rfl)
 (try simp only [Act.put, List.getElem_toArray, List.getElem_cons_succ, List.getElem_cons_zero, List.setIfInBounds_toArray, List.set_cons_zero, List.set_cons_succ])
 refine wpAnyH_take (i := 9) (v := ?_) rfl (by kernel_rfl) (by kernel_rfl) (by kernel_rfl) (fun _ _ _ h => h) (Or.inl ⟨by rfl, ?_⟩) (by assumption) ?_
 rotate_left
 ·(intro w hSw; obtain ⟨⟨⟨f0, f1⟩, f2, f3⟩, ⟨y1, y3⟩, kd⟩ := hSw; go_simp <;> with_reducible rfl)
 (try simp only [Act.put, List.getElem_toArray, List.getElem_cons_succ, List.getElem_cons_zero, List.setIfInBounds_toArray, List.set_cons_zero, List.set_cons_succ])
 refine wpAnyH_take (i := 10) (v := ?_) rfl (by kernel_rfl) (by kernel_rfl) (by kernel_rfl) (fun _ _ _ h => h) (Or.inl ⟨by rfl, ?_⟩) (by assumption) ?_
 rotate_left
 ·(intro w hSw; obtain ⟨⟨⟨f0, f1⟩, f2, f3⟩, ⟨y1, y3⟩, kd⟩ := hSw; go_simp <;> with_reducible rfl)
 (try simp only [Act.put, List.getElem_toArray, List.getElem_cons_succ, List.getElem_cons_zero, List.setIfInBounds_toArray, List.set_cons_zero, List.set_cons_succ])
 refine wpAnyH_take (i := 11) (v := ?_) rfl (by kernel_rfl) (by kernel_rfl) (by kernel_rfl) (fun _ _ _ h => h) (Or.inl ⟨by rfl, ?_⟩) (by assumption) ?_
 rotate_left
 ·(intro w hSw; obtain ⟨⟨⟨f0, f1⟩, f2, f3⟩, ⟨y1, y3⟩, kd⟩ := hSw; go_simp <;> with_reducible rfl)
 (try simp only [Act.put, List.getElem_toArray, List.getElem_cons_succ, List.getElem_cons_zero, List.setIfInBounds_toArray, List.set_cons_zero, List.set_cons_succ])
 refine wpAnyH_take (i := 12) (v := ?_) rfl (by kernel_rfl) (by kernel_rfl) (by kernel_rfl) (fun _ _ _ h => h) (Or.inl ⟨by rfl, ?_⟩) (by assumption) ?_
 rotate_left
 ·(intro w hSw; obtain ⟨⟨⟨f0, f1⟩, f2, f3⟩, ⟨y1, y3⟩, kd⟩ := hSw; go_simp <;> with_reducible rfl)
 (try simp only [Act.put, List.getElem_toArray, List.getElem_cons_succ, List.getElem_cons_zero, List.setIfInBounds_toArray, List.set_cons_zero, List.set_cons_succ])
 refine wpAnyH_take (i := 13) (v := ?_) rfl (by kernel_rfl) (by kernel_rfl) (by kernel_rfl) (fun _ _ _ h => h) (Or.inl ⟨by rfl, ?_⟩) (by assumption) ?_
 rotate_left
 ·(intro w hSw; obtain ⟨⟨⟨f0, f1⟩, f2, f3⟩, ⟨y1, y3⟩, kd⟩ := hSw; go_simp <;> with_reducible rfl)
 (try simp only [Act.put, List.getElem_toArray, List.getElem_cons_succ, List.getElem_cons_zero, List.setIfInBounds_toArray, List.set_cons_zero, List.set_cons_succ])
 refine wpAnyH_ready (rs := [14]) (by kernel_rfl) (by simp) ?_
 refine AllReadyH.cons rfl (fun K hK => ?_) AllReadyH.nil
 go_simp
 go_at_call 104
 refine (in_any v f d z.1.year _ (S4.o.q.fr.more (Nat.le_of_lt (Nat.lt_of_le_of_lt S4.o.q.fg S4.o.q.k.lt))) S4.o.env.sn H0.o S4.o.env.gl HDM.o).mono ?_
 rintro e w5 ⟨he, hb5⟩
 rw [if_neg HI.o] at he
 subst he
 exact ⟨rfl, rfl, HB.o.trans (But.of (S4.o.b.trans (hb5.mono S4.o.b.size)))⟩
theorem readCallD_good (F B g b : Nat) (v : Fv) (f : Dd.Fd) (qs : List Dp) (z : Dp) (A : Option Addr) (c : Nat) (R : Nat → Prop) (ws : List Cs.Bs) (V : World) (hE : Env V) (hz : Wz V b ws) (d : Dd.Dr) (r : List Cs.Bs) (hn : Dd.draftE ws = some (d, r)) (hQ : Dq V F B g v f (qs ++ [z]) A c R) (hbR : ¬ R b) (hFb : F ≤ b) (h9 : 9 ≤ b) (h0 : Dd.fieldE f = 0) (h20 : z.1.calls.length < 20) (hi : (Dd.inF f z.1.year d).1 = 0) :
  Calls Tryz.prog 163 #[.pointer (some ⟨g, 0, none⟩), .pointer (some ⟨b, 0, none⟩)] V fun e V' => e = .returned (.tuple #[]) ∧ But (fun k => k = b ∨ R k) V V' ∧ ∃ A1 c1 R', Dq V' F B g v f (qs ++ [({ z.1 with calls := z.1.calls ++ [(Dd.inF f z.1.year d).2] }, A1, c1)]) A c R' ∧ ∀ k, R' k → R k ∨ V.heap.size ≤ k := by
 obtain ⟨i0, hi0, hz0, hz1, hz2⟩ := info_parts infoCa
 obtain ⟨gd, rfl, _, _, _, _, _, hm⟩ := hQ.last
 have RD := jQ (readDraft_any b ws V hE hz)
 have HN := jQ hn
 have HQ := jQ hQ
 have HBR := jQ hbR
 have HE := jQ hE
 have H0 := jQ h0
 have HDM := jQ (draftM_bare hn)
 have HI := jQ hi
 obtain ⟨m, hmm⟩ : ∃ m, qs.length = m := ⟨_, rfl⟩
 have HMM := jQ hmm
 rw [hmm] at hm
 have hwm : IntKind.i64.wrap ((m : Int) + 1 - 1) = (m : Int) := by rw [IntWalk.i64_in _ (by omega)]; omega
 have hm0 : (0 : Int) ≤ (m : Int) := Int.natCast_nonneg _
 have hm1 : (m : Int) < (m : Int) + 1 := by omega
 have hgt : decide ((m : Int) + 1 > 0) = true := decide_eq_true (by omega)
 have hl20 : decide ((z.1.calls.length : Int) < 20) = true := decide_eq_true (by omega)
 clear hn hE hz hQ hbR hmm h0 hi
 go_enter Tryz.func163, Tryz.ntmps163
 go_wp2_with fail
 refine RD.o.mono ?_
 intro e w1 he
 obtain ⟨rfl, hb, hz1⟩ := he.some_ HN.o
 have HB := jQ hb
 have HKN := jQ (Bk.new w1 130 zero17)
 have S0 := jQ (show Rq w1 F B g v f qs z gd c R d (drw1 w1 d) from ⟨(HQ.o.keep hb (fun k hk => by rw [show k = b from hk]; exact ⟨HBR.o, hFb⟩)).keep (But.of (drw1_below w1 d) (X := fun _ => False)) (fun k hk => hk.elim), drw1_bk w1 d, drw1_below w1 d, (HE.o.but1 hb h9).step (drw1_below w1 d)⟩)
 obtain ⟨c4, d1, d3, _, hgl, hgd, _⟩ := S0.o.last
 have HWD := jQ (show (w1.alloc (.cells zero17 130)).setRow w1.heap.size (drcells d).toArray = drw1 w1 d from rfl)
 rw [HMM.o] at c4 d1 d3
 clear he hb hz1
 simp only [zero17] at HKN HWD
 go_wp2_with (refine wpList_store_row rfl 130 (.tmp 4) (.tmp 7) rfl w1.heap.size (drcells d).toArray rfl rfl 130 _ HKN.o (by kernel_rfl) rfl (by kernel_rfl) ?_; rw [HWD.o])
 refine (need_yes _ _).mono ?_
 rintro e w2 ⟨rfl, hb2⟩
 have S2 := jQ (S0.o.next hb2)
 clear hb2 c4 d1 d3 hgl hgd S0
 obtain ⟨c4, d1, d3, _, hgl, hgd, _⟩ := S2.o.last
 rw [HMM.o] at c4 d1 d3
 go_wp2_with fail
 go_quiet (fail)
 go_wp2_with fail
 refine (need_yes _ _).mono ?_
 rintro e w3 ⟨rfl, hb3⟩
 have S3 := jQ ((S2.o.next (below_drewN (Below.refl _ _) nq)).next hb3)
 have S4 := jQ (S3.o.next (Below.refl _ _).drew)
 have hZL := (S4.o.q.l2 z (by simp)).1
 clear hb3 c4 d1 d3 hgl hgd S2
 go_upto_region 4 with fail
 have hS4 := S4.o.cells
 rw [HMM.o] at hS4
 obtain ⟨x, hxx⟩ : ∃ x, (Dd.inF f z.1.year d).2 = x := ⟨_, rfl⟩
 have HXX := jQ hxx
 clear hxx
 obtain ⟨W4, hW4⟩ : ∃ W4, w3.drew = W4 := ⟨_, rfl⟩
 refine wp_region_lastT2 (p := 17) (q := 18) (S := RmS g w1.heap.size gd m v f z d) 19 rfl rfl (by kernel_rfl) (by kernel_rfl) hS4 (fun hHeld => ?_)
 rw [hW4] at S4 hS4 hHeld ⊢
 clear hW4
 dsimp only [List.take]
 simp only [List.size_toArray, List.length_cons, List.length_nil, Nat.reduceAdd, Array.replicate_succ, Array.replicate_zero, List.push_toArray, List.append_toArray, List.nil_append, List.cons_append]
 refine wpAnyH_take (i := 0) (v := ?_) rfl (by kernel_rfl) (by kernel_rfl) (by kernel_rfl) (fun _ _ _ h => h) (Or.inl ⟨by rfl, ?_⟩) (by assumption) ?_
 rotate_left
 ·(intro w hSw; obtain ⟨⟨⟨f0, f1⟩, f2, f3⟩, ⟨y1, y3⟩, kd⟩ := hSw; go_simp <;> with_reducible rfl)
 (try simp only [Act.put, List.getElem_toArray, List.getElem_cons_succ, List.getElem_cons_zero, List.setIfInBounds_toArray, List.set_cons_zero, List.set_cons_succ])
 refine wpAnyH_take (i := 1) (v := ?_) rfl (by kernel_rfl) (by kernel_rfl) (by kernel_rfl) (fun _ _ _ h => h) (Or.inl ⟨by rfl, ?_⟩) (by assumption) ?_
 rotate_left
 ·(intro w hSw; obtain ⟨⟨⟨f0, f1⟩, f2, f3⟩, ⟨y1, y3⟩, kd⟩ := hSw; go_simp <;> with_reducible rfl)
 (try simp only [Act.put, List.getElem_toArray, List.getElem_cons_succ, List.getElem_cons_zero, List.setIfInBounds_toArray, List.set_cons_zero, List.set_cons_succ])
 refine wpAnyH_take (i := 2) (v := ?_) rfl (by kernel_rfl) (by kernel_rfl) (by kernel_rfl) (fun _ _ _ h => h) (Or.inl ⟨by rfl, ?_⟩) (by assumption) ?_
 rotate_left
 ·(intro w hSw; obtain ⟨⟨⟨f0, f1⟩, f2, f3⟩, ⟨y1, y3⟩, kd⟩ := hSw; go_simp <;> with_reducible rfl)
 (try simp only [Act.put, List.getElem_toArray, List.getElem_cons_succ, List.getElem_cons_zero, List.setIfInBounds_toArray, List.set_cons_zero, List.set_cons_succ])
 refine wpAnyH_take (i := 3) (v := ?_) rfl (by kernel_rfl) (by kernel_rfl) (by kernel_rfl) (fun _ _ _ h => h) (Or.inl ⟨by rfl, ?_⟩) (by assumption) ?_
 rotate_left
 ·(intro w hSw; obtain ⟨⟨⟨f0, f1⟩, f2, f3⟩, ⟨y1, y3⟩, kd⟩ := hSw; go_simp <;> with_reducible rfl)
 (try simp only [Act.put, List.getElem_toArray, List.getElem_cons_succ, List.getElem_cons_zero, List.setIfInBounds_toArray, List.set_cons_zero, List.set_cons_succ])
 refine wpAnyH_take (i := 4) (v := ?_) rfl (by kernel_rfl) (by kernel_rfl) (by kernel_rfl) (fun _ _ _ h => h) (Or.inl ⟨by rfl, ?_⟩) (by assumption) ?_
 rotate_left
 ·(intro w hSw; obtain ⟨⟨⟨f0, f1⟩, f2, f3⟩, ⟨y1, y3⟩, kd⟩ := hSw; go_simp <;> with_reducible rfl)
 (try simp only [Act.put, List.getElem_toArray, List.getElem_cons_succ, List.getElem_cons_zero, List.setIfInBounds_toArray, List.set_cons_zero, List.set_cons_succ])
 refine wpAnyH_take (i := 5) (v := drval d) rfl (by kernel_rfl) (by kernel_rfl) (by kernel_rfl) (fun _ _ _ h => h) (Or.inl ⟨by rfl, ?_⟩) (by assumption) ?_
 ·(intro w hSw; obtain ⟨⟨⟨f0, f1⟩, f2, f3⟩, ⟨y1, y3⟩, kd⟩ := hSw; exact exec_load_row 130 (.tmp 4) rfl w1.heap.size rfl 130 _ (0, 0) _ kd Tryz.underlying130 rfl (by kernel_rfl))
 (try simp only [Act.put, List.getElem_toArray, List.getElem_cons_succ, List.getElem_cons_zero, List.setIfInBounds_toArray, List.set_cons_zero, List.set_cons_succ])
 refine wpAnyH_take (i := 6) (v := ?_) rfl (by kernel_rfl) (by kernel_rfl) (by kernel_rfl) (fun _ _ _ h => h) (Or.inl ⟨by rfl, ?_⟩) (by assumption) ?_
 rotate_left
 ·(intro w hSw; obtain ⟨⟨⟨f0, f1⟩, f2, f3⟩, ⟨y1, y3⟩, kd⟩ := hSw; go_simp <;> with_reducible rfl)
 (try simp only [Act.put, List.getElem_toArray, List.getElem_cons_succ, List.getElem_cons_zero, List.setIfInBounds_toArray, List.set_cons_zero, List.set_cons_succ])
 refine wpAnyH_take (i := 7) (v := ?_) rfl (by kernel_rfl) (by kernel_rfl) (by kernel_rfl) (fun _ _ _ h => h) (Or.inl ⟨by rfl, ?_⟩) (by assumption) ?_
 rotate_left
 ·(intro w hSw; obtain ⟨⟨⟨f0, f1⟩, f2, f3⟩, ⟨y1, y3⟩, kd⟩ := hSw; go_simp <;> with_reducible rfl)
 (try simp only [Act.put, List.getElem_toArray, List.getElem_cons_succ, List.getElem_cons_zero, List.setIfInBounds_toArray, List.set_cons_zero, List.set_cons_succ])
 refine wpAnyH_take (i := 8) (v := ?_) rfl (by kernel_rfl) (by kernel_rfl) (by kernel_rfl) (fun _ _ _ h => h) (Or.inl ⟨by rfl, ?_⟩) (by assumption) ?_
 rotate_left
 ·(intro w hSw; obtain ⟨⟨⟨f0, f1⟩, f2, f3⟩, ⟨y1, y3⟩, kd⟩ := hSw; go_simp <;> with_reducible rfl)
 (try simp only [Act.put, List.getElem_toArray, List.getElem_cons_succ, List.getElem_cons_zero, List.setIfInBounds_toArray, List.set_cons_zero, List.set_cons_succ])
 refine wpAnyH_take (i := 9) (v := ?_) rfl (by kernel_rfl) (by kernel_rfl) (by kernel_rfl) (fun _ _ _ h => h) (Or.inl ⟨by rfl, ?_⟩) (by assumption) ?_
 rotate_left
 ·(intro w hSw; obtain ⟨⟨⟨f0, f1⟩, f2, f3⟩, ⟨y1, y3⟩, kd⟩ := hSw; go_simp <;> with_reducible rfl)
 (try simp only [Act.put, List.getElem_toArray, List.getElem_cons_succ, List.getElem_cons_zero, List.setIfInBounds_toArray, List.set_cons_zero, List.set_cons_succ])
 refine wpAnyH_take (i := 10) (v := ?_) rfl (by kernel_rfl) (by kernel_rfl) (by kernel_rfl) (fun _ _ _ h => h) (Or.inl ⟨by rfl, ?_⟩) (by assumption) ?_
 rotate_left
 ·(intro w hSw; obtain ⟨⟨⟨f0, f1⟩, f2, f3⟩, ⟨y1, y3⟩, kd⟩ := hSw; go_simp <;> with_reducible rfl)
 (try simp only [Act.put, List.getElem_toArray, List.getElem_cons_succ, List.getElem_cons_zero, List.setIfInBounds_toArray, List.set_cons_zero, List.set_cons_succ])
 refine wpAnyH_take (i := 11) (v := ?_) rfl (by kernel_rfl) (by kernel_rfl) (by kernel_rfl) (fun _ _ _ h => h) (Or.inl ⟨by rfl, ?_⟩) (by assumption) ?_
 rotate_left
 ·(intro w hSw; obtain ⟨⟨⟨f0, f1⟩, f2, f3⟩, ⟨y1, y3⟩, kd⟩ := hSw; go_simp <;> with_reducible rfl)
 (try simp only [Act.put, List.getElem_toArray, List.getElem_cons_succ, List.getElem_cons_zero, List.setIfInBounds_toArray, List.set_cons_zero, List.set_cons_succ])
 refine wpAnyH_take (i := 12) (v := ?_) rfl (by kernel_rfl) (by kernel_rfl) (by kernel_rfl) (fun _ _ _ h => h) (Or.inl ⟨by rfl, ?_⟩) (by assumption) ?_
 rotate_left
 ·(intro w hSw; obtain ⟨⟨⟨f0, f1⟩, f2, f3⟩, ⟨y1, y3⟩, kd⟩ := hSw; go_simp <;> with_reducible rfl)
 (try simp only [Act.put, List.getElem_toArray, List.getElem_cons_succ, List.getElem_cons_zero, List.setIfInBounds_toArray, List.set_cons_zero, List.set_cons_succ])
 refine wpAnyH_take (i := 13) (v := ?_) rfl (by kernel_rfl) (by kernel_rfl) (by kernel_rfl) (fun _ _ _ h => h) (Or.inl ⟨by rfl, ?_⟩) (by assumption) ?_
 rotate_left
 ·(intro w hSw; obtain ⟨⟨⟨f0, f1⟩, f2, f3⟩, ⟨y1, y3⟩, kd⟩ := hSw; go_simp <;> with_reducible rfl)
 (try simp only [Act.put, List.getElem_toArray, List.getElem_cons_succ, List.getElem_cons_zero, List.setIfInBounds_toArray, List.set_cons_zero, List.set_cons_succ])
 refine wpAnyH_ready (rs := [14]) (by kernel_rfl) (by simp) ?_
 refine AllReadyH.cons rfl (fun K hK => ?_) AllReadyH.nil
 go_simp
 go_at_call 104
 refine (in_any v f d z.1.year _ (S4.o.q.fr.more (Nat.le_of_lt (Nat.lt_of_le_of_lt S4.o.q.fg S4.o.q.k.lt))) S4.o.env.sn H0.o S4.o.env.gl HDM.o).mono ?_
 rintro e w5 ⟨he, hb5⟩
 rw [if_pos HI.o, HXX.o, caval_def] at he
 subst he
 have S5 := jQ (S4.o.next hb5)
 have HB5 := jQ hb5
 have hS5 := S5.o.cells
 rw [HMM.o] at hS5
 clear hb5
 (try go_wp2_with fail)
 refine hK.out _ _ hS5 (fun hHeld => ?_)
 clear hK K
 (try simp only [Act.put, List.getElem_toArray, List.getElem_cons_succ, List.getElem_cons_zero, List.setIfInBounds_toArray, List.set_cons_zero, List.set_cons_succ])
 refine wpAnyH_ready (rs := [15]) (by kernel_rfl) (by simp) ?_
 refine AllReadyH.cons rfl (fun K hK => ?_) AllReadyH.nil
 rw [if_pos (by rfl)]
 go_simp
 have S6 := jQ (S5.o.next ((Below.refl _ _).alloc (Nat.le_refl _) (.cells (cacell x).toArray 48)))
 have hS6 := S6.o.cells
 rw [HMM.o] at hS6
 refine hK.out _ _ hS6 (fun hHeld => ?_)
 clear hK K
 (try simp only [Act.put, List.getElem_toArray, List.getElem_cons_succ, List.getElem_cons_zero, List.setIfInBounds_toArray, List.set_cons_zero, List.set_cons_succ])
 refine wpAnyH_ready (rs := [16]) (by kernel_rfl) (by simp) ?_
 refine AllReadyH.cons rfl (fun K hK => ?_) AllReadyH.nil
 have hob := S6.o.q.oc z (by simp)
 have hOn := jQ hob
 have hwB := S6.o.q.le
 rw [psl_def] at hob
 refine step_append_lies _ rfl (.tmp 37) (.tmp 48) 93 rfl B 48 i0 _ 13 104 Tryz.underlying93 hi0 hz0 hz1 hz2 rfl (by omega) (.slice z.2.1 z.1.calls.length z.2.2) z.1.calls.length (cacells z.1.calls) (by rfl) hob ⟨w5.heap.size, 0, none⟩ 1 1 (cacell x) (by rfl) rfl
  (World.news_of_block (cs := (cacell x).toArray) (t := 48) (fr := (0, 0)) (World.alloc_heap_new w5 _)) (by simp [cacell, Value.oneCell']) (by omega) (by unfold maxLen; omega) (by omega) hwB (w5.heap.size + 1) (by simp) ?_
 intro gn cn w7 hown hgrow hat hlt7
 have hgB := S6.o.q.gB
 have n1 : ¬ (Value.slice z.2.1 z.1.calls.length z.2.2).ownBlock = some g := fun e => by have := own_low hob g e; omega
 have n2 : ¬ (Value.slice z.2.1 z.1.calls.length z.2.2).ownBlock = some gd := fun e => own_disj hob S6.o.q.o (by decide) gd e rfl
 have n3 : ¬ (Value.slice z.2.1 z.1.calls.length z.2.2).ownBlock = some w1.heap.size := fun e => own_type hob S6.o.kd (by decide) e.symm
 obtain ⟨_, _, _, fz6, gl6, gdl6, dl6⟩ := S6.o.last
 rw [HMM.o] at fz6
 have hbG := But.grown hgrow
 have hS7 := hS6.but hbG n1 n2 n3 gl6 gdl6 dl6
 have fz7 := (World.frozen?_of_block (hbG.block gd gdl6 n2)).trans fz6
 have gdl7 := Nat.lt_of_lt_of_le gdl6 hgrow.size
 obtain ⟨R', hD, hBR, hR'⟩ := S5.o.q.call (d := z.1) (A1 := z.2.1) (c1 := z.2.2) (x := x) rfl h20 ((Below.refl _ _).alloc (Nat.le_refl _) _) hown hgrow (by rcases hat with e | e; exact .inl e; exact .inr (by omega))
 rw [HMM.o] at hD hBR
 have HD := jQ hD
 have HBR2 := jQ hBR
 have HR' := jQ hR'
 refine hK.out _ _ hS7 (fun hHeld => ?_)
 clear hK K hown hgrow hat hob hD hBR hR' hbG
 (try simp only [Act.put, List.getElem_toArray, List.getElem_cons_succ, List.getElem_cons_zero, List.setIfInBounds_toArray, List.set_cons_zero, List.set_cons_succ])
 refine wpAnyH_take (i := 17) (v := ?_) rfl (by kernel_rfl) (by kernel_rfl) (by kernel_rfl) (fun _ _ _ h => h) (Or.inl ⟨by rfl, ?_⟩) (by assumption) ?_
 rotate_left
 ·(intro w hSw; obtain ⟨⟨⟨f0, f1⟩, f2, f3⟩, ⟨y1, y3⟩, kd⟩ := hSw; go_simp <;> with_reducible rfl)
 (try simp only [Act.put, List.getElem_toArray, List.getElem_cons_succ, List.getElem_cons_zero, List.setIfInBounds_toArray, List.set_cons_zero, List.set_cons_succ])
 refine wpAnyH_take (i := 18) (v := ?_) rfl (by kernel_rfl) (by kernel_rfl) (by kernel_rfl) (fun _ _ _ h => h) (Or.inl ⟨by rfl, ?_⟩) (by assumption) ?_
 rotate_left
 ·(intro w hSw; obtain ⟨⟨⟨f0, f1⟩, f2, f3⟩, ⟨y1, y3⟩, kd⟩ := hSw; go_simp <;> with_reducible rfl)
 (try simp only [Act.put, List.getElem_toArray, List.getElem_cons_succ, List.getElem_cons_zero, List.setIfInBounds_toArray, List.set_cons_zero, List.set_cons_succ])
 refine wpAnyH_done (by kernel_rfl) ?_ _
 simp only [QLast, List.getElem_toArray, List.getElem_cons_succ, List.getElem_cons_zero]
 obtain ⟨_, ⟨_, y3⟩, _⟩ := hS7
 go_wp2_with (fail)
 go_end0
 refine ⟨rfl, ?_, some ⟨gn, 0, none⟩, cn, R', by rw [HXX.o]; exact HD.o, fun k hk => ?_⟩
 ·exact ((HB.o.mono (fun k h => .inl h)).trans (But.of S5.o.b)).trans (HBR2.o.mono (fun k h => .inr h))
 ·rcases HR'.o k hk with e | e
  ·exact .inl e
  ·exact .inr (Nat.le_trans HB.o.size (Nat.le_trans S5.o.b.size e))
theorem readCallD_any (F B g b : Nat) (v : Fv) (f : Dd.Fd) (ps : List Dp) (A : Option Addr) (c : Nat) (R : Nat → Prop) (ws : List Cs.Bs) (V : World) (hE : Env V) (hz : Wz V b ws) (hQ : Dq V F B g v f ps A c R) (hbR : ¬ R b) (hFb : F ≤ b) (h9 : 9 ≤ b) (h0 : Dd.fieldE f = 0) :
  Calls Tryz.prog 163 #[.pointer (some ⟨g, 0, none⟩), .pointer (some ⟨b, 0, none⟩)] V (Fs3 (Dd.moreL f (ps.map (fun p : Dp => p.1)) ws) F B g b v f R V) := by
 have hfin := Dd.draftE_fin ws
 unfold Dd.moreL
 rw [hfin]
 rcases hn : Dd.draftE ws with _ | ⟨d, r⟩
 ·refine (readCallD_none F B g b v f ps A c R ws V hE hz hn).mono ?_
  rintro e V' ⟨rfl, hb⟩
  exact Fs3.no rfl (by decide) hb
 ·simp only [Option.map_some]
  rcases List.eq_nil_or_concat ps with rfl | ⟨qs, z, rfl⟩
  ·refine (readCallD_few F B g b v f A c R ws V hE hz d r hn hQ hbR).mono ?_
   rintro e V' ⟨rfl, hb⟩
   exact Fs3.no rfl (by decide) hb
  ·have hl : ((qs.concat z).map (fun p : Dp => p.1)).getLast? = some z.1 := by simp
   have hd : ((qs.concat z).map (fun p : Dp => p.1)).dropLast = qs.map (fun p : Dp => p.1) := by simp
   rw [hl]
   dsimp only
   rw [List.concat_eq_append] at hQ
   by_cases h20 : 20 ≤ z.1.calls.length
   ·rw [if_pos h20]
    refine (readCallD_full F B g b v f qs z A c R ws V hE hz d r hn hQ hbR hFb h9 h20).mono ?_
    rintro e V' ⟨rfl, hb⟩
    exact Fs3.no rfl (by decide) hb
   ·rw [if_neg h20]
    by_cases hi : (Dd.inF f z.1.year d).1 = 0
    ·rw [if_pos hi, hd]
     refine (readCallD_good F B g b v f qs z A c R ws V hE hz d r hn hQ hbR hFb h9 h0 (by omega) hi).mono ?_
     rintro e V' ⟨rfl, hb, A1, c1, R', hD, hR⟩
     exact ⟨hb, .inl ⟨rfl, rfl, _, A, c, R', by simp, hD, hR⟩⟩
    ·rw [if_neg hi]
     refine (readCallD_bad F B g b v f qs z A c R ws V hE hz d r hn hQ hbR hFb h9 h0 (by omega) hi).mono ?_
     rintro e V' ⟨rfl, hb⟩
     exact Fs3.no rfl hi hb
end
end Go.Proofs.YtccikcpcfdjobaaGreatDoor
