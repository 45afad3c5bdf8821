/-
  What the claim needs: contracts.
-/
import Derived.Test.YtccikcpcfdjobaaGreatDoorBs38
set_option linter.unusedVariables false
set_option linter.unusedSimpArgs false
set_option maxHeartbeats 8000000
set_option maxRecDepth 100000
namespace Go.Proofs.YtccikcpcfdjobaaGreatDoor
section
open Go.RowKit
theorem yCn : (Tryz.prog.info? 68).map (fun i => (i.zero, i.size, i.bytes)) = some (some (.agg #[.string ⟨#[]⟩, .int .i64 0, .int .i64 0, .int .i64 0]), 4, 40) := by kernel_rfl
theorem Dd.yCR (f : Dd.Fd) (ws : List Cs.Bs) : Dd.parcelL f ws = match Dd.nameW ws with | none => (4, f) | some p => match Dd.nameW p.2 with | none => (4, f) | some q => match Dd.nameW q.2 with | none => (4, f) | some r => match Dd.nameW r.2 with | none => (4, f) | some s => match Dd.endW s.2 with | none => (4, f) | some _ => if Dd.idx f.li q.1 < 0 ∨ Dd.idx (f.st.map (·.1)) r.1 < 0 ∨ Dd.idx (f.st.map (·.1)) s.1 < 0 then (5, f) else if Dd.idx f.li q.1 + 1 < f.li.length then (0, { f with pa := f.pa ++ [⟨p.1, Dd.idx f.li q.1, Dd.idx (f.st.map (·.1)) r.1, Dd.idx (f.st.map (·.1)) s.1⟩] }) else (1, f) := by
 rcases ws with _ | ⟨n, _ | ⟨s, _ | ⟨a, _ | ⟨b, _ | ⟨z, t⟩⟩⟩⟩⟩
 ·rfl
 ·rcases h1 : Dd.nameF n <;> simp [Dd.parcelL, Dd.nameW, h1]
 ·rcases h1 : Dd.nameF n <;> rcases h2 : Dd.nameF s <;> simp [Dd.parcelL, Dd.nameW, h1, h2]
 ·rcases h1 : Dd.nameF n <;> rcases h2 : Dd.nameF s <;> rcases h3 : Dd.nameF a <;> simp [Dd.parcelL, Dd.nameW, h1, h2, h3]
 ·rcases h1 : Dd.nameF n <;> rcases h2 : Dd.nameF s <;> rcases h3 : Dd.nameF a <;> rcases h4 : Dd.nameF b <;> simp [Dd.parcelL, Dd.nameW, Dd.endW, h1, h2, h3, h4]
 rcases h1 : Dd.nameF n <;> rcases h2 : Dd.nameF s <;> rcases h3 : Dd.nameF a <;> rcases h4 : Dd.nameF b <;> simp [Dd.parcelL, Dd.nameW, Dd.endW, h1, h2, h3, h4]
theorem y1w {ws : List Cs.Bs} {n : Cs.Bs} {r : List Cs.Bs} {W : World} {b : Nat} (hz : Wz W b ws) (hs : Dd.nameW ws = some (n, r)) : n.length <= 1000000 := by
 rcases ws with _ | ⟨x, r'⟩
 ·cases hs
 rw [Dd.nameW] at hs;split at hs
 ·simp only [Option.some.injEq, Prod.mk.injEq] at hs;rw [<- hs.1];exact hz.hl x List.mem_cons_self
 cases hs
structure Pq (w3 : World) (g : Nat) (f : Dd.Fd) (v : Fv) (W : World) : Prop where
 b : Below w3.heap.size w3 W
 c0 : W.cell? ⟨g, 0, none⟩ = some (.slice v.a1 f.st.length v.c1)
 c1 : W.cell? ⟨g, 1, none⟩ = some (.slice v.a2 f.li.length v.c2)
 rs : Rd W W.heap.size 2 v.a1 f.st.length (scells f.st)
 rl : Rd W W.heap.size 1 v.a2 f.li.length (wcells f.li)
theorem Pq.next {w3 W W' : World} {g : Nat} {f : Dd.Fd} {v : Fv} (h : Pq w3 g f v W) (hg : g < w3.heap.size) (hb : Below W.heap.size W W') : Pq w3 g f v W' :=
 ⟨h.b.trans (hb.mono h.b.size), (hb.cell (p := ⟨g, 0, none⟩) (Nat.lt_of_lt_of_le hg h.b.size)).trans h.c0, (hb.cell (p := ⟨g, 1, none⟩) (Nat.lt_of_lt_of_le hg h.b.size)).trans h.c1, (h.rs.below hb (Nat.le_refl _)).more hb.size, (h.rl.below hb (Nat.le_refl _)).more hb.size⟩
def PqS (g : Nat) (f : Dd.Fd) (v : Fv) (V : World) : Prop := V.cell? ⟨g, 0, none⟩ = some (.slice v.a1 f.st.length v.c1) /\ V.cell? ⟨g, 1, none⟩ = some (.slice v.a2 f.li.length v.c2)
theorem Pq.s {w3 W : World} {g : Nat} {f : Dd.Fd} {v : Fv} (h : Pq w3 g f v W) : PqS g f v W := ⟨h.c0, h.c1⟩
theorem Pq.rowN {w3 W : World} {g ga : Nat} {f : Dd.Fd} {v : Fv} (h : Pq w3 g f v W) (hne : g ≠ ga) (cs : Array Value) : PqS g f v (W.setRow ga cs) :=
 ⟨(World.cell?_of_block (by simp only [World.setRow, Array.getElem?_modify]; rw [if_neg (Ne.symm hne)])).trans h.c0, (World.cell?_of_block (by simp only [World.setRow, Array.getElem?_modify]; rw [if_neg (Ne.symm hne)])).trans h.c1⟩
theorem y7t {w3 W : World} {g : Nat} {f : Dd.Fd} {v : Fv} (h : Pq w3 g f v W) : w3.heap.size <= W.heap.size /\ Bk (W.alloc (.cells #[.string ⟨#[]⟩, .int .i64 0, .int .i64 0, .int .i64 0] 68)) W.heap.size 68 #[.string ⟨#[]⟩, .int .i64 0, .int .i64 0, .int .i64 0] := ⟨h.b.size, Bk.new _ _ _⟩
set_option maxHeartbeats 16000000 in
theorem y4F (B g m b : Nat) (f : Dd.Fd) (R : Nat -> Prop) (v : Fv) (ws : List Cs.Bs) (V : World) (hm : m <= 1000000) (hz : Wz V b ws) (hF : Fo V B g m f R v) (hbR : ¬ R b) (hbg : g < b) :
  Calls Tryz.prog 146 #[.pointer (some ⟨b, 0, none⟩), .pointer (some ⟨g, 0, none⟩)] V (Fs2 (Dd.parcelL f ws) B g m b R V) := by
 obtain ⟨i0, hi0, hz0, hz1, hz2⟩ := info_parts yCn;have h9 := hz.g9;have HM := jQ (Dd.yCR f ws);have HZ0 := jQ hz;have HF0 := jQ hF;have HB0 := jQ (But.refl (fun k => k = b) V);have HBR := jQ hbR;obtain ⟨RR, hRR⟩ := zE (Dd.parcelL f ws);rw [hRR] at HM ⊢;clear hz hF hbR hRR;go_enter Tryz.func146, Tryz.ntmps146;go_wp2_with fail;rcases hs : Dd.nameW ws with _ | ⟨x0, r0⟩
 ·have HX := jQ (show RR.1 = 4 by rw [HM.o]; rw [hs]);have HS := jQ hs;clear hs;refine (y04 b ws _ HZ0.o).mono ?_;intro e w9 he;obtain ⟨rfl, hb⟩ := he.none_ HS.o;clear he;go_wp2_with fail;exact ⟨rfl, Fs2.no HX.o (by decide) (HB0.o.trans hb)⟩
 have HNL0 := jQ (y1w HZ0.o hs);have HS0 := jQ hs;clear hs;refine (y04 b ws _ HZ0.o).mono ?_;intro e v1 he;obtain ⟨rfl, hb, hz'⟩ := he.some_ HS0.o;have HB1 := jQ (HB0.o.trans hb);have HZ1 := jQ hz';have HF1 := jQ (HF0.o.keep hb (fun k hk => by rw [show k = b from hk]; exact HBR.o));clear he hb hz';simp only [y06];go_wp2_with fail;rcases hs : Dd.nameW r0 with _ | ⟨x1, r1⟩
 ·have HX := jQ (show RR.1 = 4 by rw [HM.o]; rw [HS0.o]; simp only []; rw [hs]);have HS := jQ hs;clear hs;refine (y04 b r0 _ HZ1.o).mono ?_;intro e w9 he;obtain ⟨rfl, hb⟩ := he.none_ HS.o;clear he;go_wp2_with fail;exact ⟨rfl, Fs2.no HX.o (by decide) (HB1.o.trans hb)⟩
 have HNL1 := jQ (y1w HZ1.o hs);have HS1 := jQ hs;clear hs;refine (y04 b r0 _ HZ1.o).mono ?_;intro e v2 he;obtain ⟨rfl, hb, hz'⟩ := he.some_ HS1.o;have HB2 := jQ (HB1.o.trans hb);have HZ2 := jQ hz';have HF2 := jQ (HF1.o.keep hb (fun k hk => by rw [show k = b from hk]; exact HBR.o));clear he hb hz';simp only [y06];go_wp2_with fail;rcases hs : Dd.nameW r1 with _ | ⟨x2, r2⟩
 ·have HX := jQ (show RR.1 = 4 by rw [HM.o]; rw [HS0.o]; simp only []; rw [HS1.o]; simp only []; rw [hs]);have HS := jQ hs;clear hs;refine (y04 b r1 _ HZ2.o).mono ?_;intro e w9 he;obtain ⟨rfl, hb⟩ := he.none_ HS.o;clear he;go_wp2_with fail;exact ⟨rfl, Fs2.no HX.o (by decide) (HB2.o.trans hb)⟩
 have HNL2 := jQ (y1w HZ2.o hs);have HS2 := jQ hs;clear hs;refine (y04 b r1 _ HZ2.o).mono ?_;intro e v3 he;obtain ⟨rfl, hb, hz'⟩ := he.some_ HS2.o;have HB3 := jQ (HB2.o.trans hb);have HZ3 := jQ hz';have HF3 := jQ (HF2.o.keep hb (fun k hk => by rw [show k = b from hk]; exact HBR.o));clear he hb hz';simp only [y06];go_wp2_with fail;rcases hs : Dd.nameW r2 with _ | ⟨x3, r3⟩
 ·have HX := jQ (show RR.1 = 4 by rw [HM.o]; rw [HS0.o]; simp only []; rw [HS1.o]; simp only []; rw [HS2.o]; simp only []; rw [hs]);have HS := jQ hs;clear hs;refine (y04 b r2 _ HZ3.o).mono ?_;intro e w9 he;obtain ⟨rfl, hb⟩ := he.none_ HS.o;clear he;go_wp2_with fail;exact ⟨rfl, Fs2.no HX.o (by decide) (HB3.o.trans hb)⟩
 have HNL3 := jQ (y1w HZ3.o hs);have HS3 := jQ hs;clear hs;refine (y04 b r2 _ HZ3.o).mono ?_;intro e v4 he;obtain ⟨rfl, hb, hz'⟩ := he.some_ HS3.o;have HB4 := jQ (HB3.o.trans hb);have HZ4 := jQ hz';have HF4 := jQ (HF3.o.keep hb (fun k hk => by rw [show k = b from hk]; exact HBR.o));clear he hb hz';simp only [y06];go_wp2_with fail;rcases hs : Dd.endW r3 with _ | ⟨u, r4⟩
 ·have HX := jQ (show RR.1 = 4 by rw [HM.o]; rw [HS0.o]; simp only []; rw [HS1.o]; simp only []; rw [HS2.o]; simp only []; rw [HS3.o]; simp only []; rw [hs]);have HS := jQ hs;clear hs;refine (y0o b r3 _ HZ4.o).mono ?_;intro e w9 he;obtain ⟨rfl, hb⟩ := he.none_ HS.o;clear he;go_wp2_with fail;exact ⟨rfl, Fs2.no HX.o (by decide) (HB4.o.trans hb)⟩
 obtain ⟨i1, e1⟩ := zE (Dd.idx f.li x1);obtain ⟨i2, e2⟩ := zE (Dd.idx (f.st.map (·.1)) x2);obtain ⟨i3, e3⟩ := zE (Dd.idx (f.st.map (·.1)) x3);have hR0 : RR = if i1 < 0 ∨ i2 < 0 ∨ i3 < 0 then (5, f) else if i1 + 1 < f.li.length then (0, { f with pa := f.pa ++ [⟨x0, i1, i2, i3⟩] }) else (1, f) := by
  rw [HM.o]; rw [HS0.o]; simp only []; rw [HS1.o]; simp only []; rw [HS2.o]; simp only []; rw [HS3.o]; simp only []; rw [hs]; simp only []; rw [e1, e2, e3]
 have HRR := jQ hR0;have E1 := jQ e1;have E2 := jQ e2;have E3 := jQ e3;have hr1 := Dd.y4Q (fun x => decide (x = x1)) f.li;have hr1' : i1 < f.li.length := by rw [<- e1]; exact hr1.2
 have HS5 := jQ hs;clear hs hR0 e1 e2 e3 hr1;refine (y0o b r3 _ HZ4.o).mono ?_;intro e w3 he;obtain ⟨rfl, hb, _⟩ := he.some_ HS5.o;have HB5 := jQ (HB4.o.trans hb);have hF5 := HF4.o.keep hb (fun k hk => by rw [show k = b from hk]; exact HBR.o);have HF5 := jQ hF5;have hgw := hF5.k.lt;have hrd := hF5.rd hm;have hq : Pq w3 g f v w3.drew := ⟨(Below.refl _ _).drew, (hF5.k.cell 0).trans rfl, (hF5.k.cell 1).trans rfl, hrd.st, hrd.li⟩;have HQ := jQ hq;have hl1 := hrd.l1;have hl2 := hrd.l2;have h5 := hF5.l3;clear he hb hF5 hrd hq;simp only [uv];go_upto_region 2 with fail
 go_cut [8] (fun s8 wx => ∃ ga, s8 = .pointer (some ⟨ga, 0, none⟩) /\ w3.heap.size <= ga /\ Bk wx ga 68 #[.string ⟨x0.toArray⟩, .int .i64 i1, .int .i64 i2, .int .i64 i3] /\ Below w3.heap.size w3 wx /\ ¬ (i1 < 0 ∨ i2 < 0 ∨ i3 < 0))
 case first =>
  refine wp_region_held_drew (S := PqS g f v) (by kernel_rfl) HQ.o.s (fun hHeld => ?_);simp only [List.size_toArray, List.length_cons, List.length_nil, Nat.reduceAdd, Array.replicate_succ, Array.replicate_zero, List.push_toArray, List.append_toArray, List.nil_append, List.cons_append];refine wpAnyH_take (i := 0) (v := ?_) rfl (by kernel_rfl) (by kernel_rfl) (by kernel_rfl) (fun _ _ _ h => h) (Or.inl ⟨by rfl, ?_⟩) (by assumption) ?_;rotate_left
  ·(intro w hSw; obtain ⟨c0, c1⟩ := hSw; go_simp <;> with_reducible rfl)
  (try simp only [Act.put, zC, zB])
  refine wpAnyH_take (i := 1) (v := ?_) rfl (by kernel_rfl) (by kernel_rfl) (by kernel_rfl) (fun _ _ _ h => h) (Or.inl ⟨by rfl, ?_⟩) (by assumption) ?_;rotate_left
  ·(intro w hSw; obtain ⟨c0, c1⟩ := hSw; go_simp <;> with_reducible rfl)
  (try simp only [Act.put, zC, zB])
  refine wpAnyH_take (i := 2) (v := ?_) rfl (by kernel_rfl) (by kernel_rfl) (by kernel_rfl) (fun _ _ _ h => h) (Or.inl ⟨by rfl, ?_⟩) (by assumption) ?_;rotate_left
  ·(intro w hSw; obtain ⟨c0, c1⟩ := hSw; go_simp <;> with_reducible rfl)
  (try simp only [Act.put, zC, zB])
  refine wpAnyH_take (i := 3) (v := ?_) rfl (by kernel_rfl) (by kernel_rfl) (by kernel_rfl) (fun _ _ _ h => h) (Or.inl ⟨by rfl, ?_⟩) (by assumption) ?_;rotate_left
  ·(intro w hSw; obtain ⟨c0, c1⟩ := hSw; go_simp <;> with_reducible rfl)
  (try simp only [Act.put, zC, zB])
  refine wpAnyH_take (i := 4) (v := ?_) rfl (by kernel_rfl) (by kernel_rfl) (by kernel_rfl) (fun _ _ _ h => h) (Or.inl ⟨by rfl, ?_⟩) (by assumption) ?_;rotate_left
  ·(intro w hSw; obtain ⟨c0, c1⟩ := hSw; go_simp <;> with_reducible rfl)
  (try simp only [Act.put, zC, zB])
  refine wpAnyH_take (i := 5) (v := ?_) rfl (by kernel_rfl) (by kernel_rfl) (by kernel_rfl) (fun _ _ _ h => h) (Or.inl ⟨by rfl, ?_⟩) (by assumption) ?_;rotate_left
  ·(intro w hSw; obtain ⟨c0, c1⟩ := hSw; go_simp <;> with_reducible rfl)
  (try simp only [Act.put, zC, zB])
  refine wpAnyH_take (i := 7) (v := ?_) rfl (by kernel_rfl) (by kernel_rfl) (by kernel_rfl) (fun _ _ _ h => h) (Or.inl ⟨by rfl, ?_⟩) (by assumption) ?_;rotate_left
  ·(intro w hSw; obtain ⟨c0, c1⟩ := hSw; go_simp <;> with_reducible rfl)
  (try simp only [Act.put, zC, zB])
  refine wpAnyH_take (i := 8) (v := ?_) rfl (by kernel_rfl) (by kernel_rfl) (by kernel_rfl) (fun _ _ _ h => h) (Or.inl ⟨by rfl, ?_⟩) (by assumption) ?_;rotate_left
  ·(intro w hSw; obtain ⟨c0, c1⟩ := hSw; go_simp <;> with_reducible rfl)
  (try simp only [Act.put, zC, zB])
  refine wpAnyH_take (i := 9) (v := ?_) rfl (by kernel_rfl) (by kernel_rfl) (by kernel_rfl) (fun _ _ _ h => h) (Or.inl ⟨by rfl, ?_⟩) (by assumption) ?_;rotate_left
  ·(intro w hSw; obtain ⟨c0, c1⟩ := hSw; go_simp <;> with_reducible rfl)
  (try simp only [Act.put, zC, zB])
  refine wpAnyH_take (i := 10) (v := ?_) rfl (by kernel_rfl) (by kernel_rfl) (by kernel_rfl) (fun _ _ _ h => h) (Or.inl ⟨by rfl, ?_⟩) (by assumption) ?_;rotate_left
  ·(intro w hSw; obtain ⟨c0, c1⟩ := hSw; go_simp <;> with_reducible rfl)
  (try simp only [Act.put, zC, zB])
  refine wpAnyH_take (i := 11) (v := ?_) rfl (by kernel_rfl) (by kernel_rfl) (by kernel_rfl) (fun _ _ _ h => h) (Or.inl ⟨by rfl, ?_⟩) (by assumption) ?_;rotate_left
  ·(intro w hSw; obtain ⟨c0, c1⟩ := hSw; go_simp <;> with_reducible rfl)
  (try simp only [Act.put, zC, zB])
  refine wpAnyH_take (i := 13) (v := ?_) rfl (by kernel_rfl) (by kernel_rfl) (by kernel_rfl) (fun _ _ _ h => h) (Or.inl ⟨by rfl, ?_⟩) (by assumption) ?_;rotate_left
  ·(intro w hSw; obtain ⟨c0, c1⟩ := hSw; go_simp <;> with_reducible rfl)
  (try simp only [Act.put, zC, zB])
  refine wpAnyH_take (i := 14) (v := ?_) rfl (by kernel_rfl) (by kernel_rfl) (by kernel_rfl) (fun _ _ _ h => h) (Or.inl ⟨by rfl, ?_⟩) (by assumption) ?_;rotate_left
  ·(intro w hSw; obtain ⟨c0, c1⟩ := hSw; go_simp <;> with_reducible rfl)
  (try simp only [Act.put, zC, zB])
  refine wpAnyH_take (i := 15) (v := ?_) rfl (by kernel_rfl) (by kernel_rfl) (by kernel_rfl) (fun _ _ _ h => h) (Or.inl ⟨by rfl, ?_⟩) (by assumption) ?_;rotate_left
  ·(intro w hSw; obtain ⟨c0, c1⟩ := hSw; go_simp <;> with_reducible rfl)
  (try simp only [Act.put, zC, zB])
  refine wpAnyH_take (i := 16) (v := ?_) rfl (by kernel_rfl) (by kernel_rfl) (by kernel_rfl) (fun _ _ _ h => h) (Or.inl ⟨by rfl, ?_⟩) (by assumption) ?_;rotate_left
  ·(intro w hSw; obtain ⟨c0, c1⟩ := hSw; go_simp <;> with_reducible rfl)
  (try simp only [Act.put, zC, zB])
  refine wpAnyH_take (i := 17) (v := ?_) rfl (by kernel_rfl) (by kernel_rfl) (by kernel_rfl) (fun _ _ _ h => h) (Or.inl ⟨by rfl, ?_⟩) (by assumption) ?_;rotate_left
  ·(intro w hSw; obtain ⟨c0, c1⟩ := hSw; go_simp <;> with_reducible rfl)
  (try simp only [Act.put, zC, zB])
  refine wpAnyH_ready (rs := [6, 20]) (by kernel_rfl) (by simp) ?_;refine AllReadyH.cons rfl (fun K hK => ?_) (AllReadyH.cons rfl (fun K hK => ?_) AllReadyH.nil)
  ·go_simp
   go_at_call 160
   refine (y1R v.a2 v.c2 f.li x1 _ HQ.o.rl hl2).mono ?_;rw [E1.o];rintro ee y1 ⟨he, hb⟩;by_cases hi : i1 < 0
   ·rw [if_pos hi] at he;subst he;have HX := jQ (show RR.1 = 5 by rw [HRR.o, if_pos (.inl hi)]);exact ⟨rfl, Fs2.no HX.o (by decide) (HB5.o.trans (But.of (HQ.o.next hgw hb).b))⟩
   rw [if_neg hi] at he;subst he;have N1 := jQ hi;have Q1 := jQ (HQ.o.next hgw hb);clear hi hb
   (try go_wp2_with fail)
   refine hK.out _ _ Q1.o.s (fun hHeld => ?_);clear hK
   (try simp only [Act.put, zC, zB])
   refine wpAnyH_ready (rs := [12, 20]) (by kernel_rfl) (by simp) ?_;refine AllReadyH.cons rfl (fun K hK => ?_) (AllReadyH.cons rfl (fun K hK => ?_) AllReadyH.nil)
   ·go_simp
    go_at_call 161
    refine (y0d v.a1 v.c1 f.st x2 _ Q1.o.rs hl1).mono ?_;rw [E2.o];rintro ee y2 ⟨he, hb⟩;by_cases hi : i2 < 0
    ·rw [if_pos hi] at he;subst he;have HX := jQ (show RR.1 = 5 by rw [HRR.o, if_pos (.inr (.inl hi))]);exact ⟨rfl, Fs2.no HX.o (by decide) (HB5.o.trans (But.of (Q1.o.next hgw hb).b))⟩
    rw [if_neg hi] at he;subst he;have N2 := jQ hi;have Q2 := jQ (Q1.o.next hgw hb);clear hi hb
    (try go_wp2_with fail)
    refine hK.out _ _ Q2.o.s (fun hHeld => ?_);clear hK
    (try simp only [Act.put, zC, zB])
    refine wpAnyH_ready (rs := [18, 20]) (by kernel_rfl) (by simp) ?_;refine AllReadyH.cons rfl (fun K hK => ?_) (AllReadyH.cons rfl (fun K hK => ?_) AllReadyH.nil)
    ·go_simp
     go_at_call 161
     refine (y0d v.a1 v.c1 f.st x3 _ Q2.o.rs hl1).mono ?_;rw [E3.o];rintro ee y3 ⟨he, hb⟩;by_cases hi : i3 < 0
     ·rw [if_pos hi] at he;subst he;have HX := jQ (show RR.1 = 5 by rw [HRR.o, if_pos (.inr (.inr hi))]);exact ⟨rfl, Fs2.no HX.o (by decide) (HB5.o.trans (But.of (Q2.o.next hgw hb).b))⟩
     rw [if_neg hi] at he;subst he;have N3 := jQ hi;have Q3 := jQ (Q2.o.next hgw hb);clear hi hb
     (try go_wp2_with fail)
     refine hK.out _ _ Q3.o.s (fun hHeld => ?_);clear hK
     (try simp only [Act.put, zC, zB])
     refine wpAnyH_take (i := 19) (v := ?_) rfl (by kernel_rfl) (by kernel_rfl) (by kernel_rfl) (fun _ _ _ h => h) (Or.inl ⟨by rfl, ?_⟩) (by assumption) ?_;rotate_left
     ·(intro w hSw; obtain ⟨c0, c1⟩ := hSw; go_simp <;> with_reducible rfl)
     (try simp only [Act.put, zC, zB])
     refine wpAnyH_ready (rs := [20]) (by kernel_rfl) (by simp) ?_;refine zA rfl fun K hK => ?_;go_simp;have Q4 := jQ (Q3.o.next hgw ((Below.refl _ _).alloc (Nat.le_refl _) (.cells #[.string ⟨#[]⟩, .int .i64 0, .int .i64 0, .int .i64 0] 68)));have A4 := jQ (y7t Q3.o);refine hK.out _ _ Q4.o.s (fun hHeld => ?_);clear hK
     (try simp only [Act.put, zC, zB])
     refine wpAnyH_ready (rs := [21]) (by kernel_rfl) (by simp) ?_;refine zA rfl fun K hK => ?_;rw [if_pos (by rfl)];refine wp_store_row 68 (.tmp 8) (.tmp 38) rfl _ #[.string ⟨x0.toArray⟩, .int .i64 i1, .int .i64 i2, .int .i64 i3] rfl rfl 68 _ A4.o.2 (by kernel_rfl) rfl (by kernel_rfl) ?_;have hne : g ≠ _ := Nat.ne_of_lt (Nat.lt_of_lt_of_le hgw A4.o.1);refine hK.out _ _ ⟨(Q4.o.rowN hne _).1, (Q4.o.rowN hne _).2⟩ (fun hHeld => ?_);clear hK;refine wpAnyH_done (by kernel_rfl) ?_ _;simp only [List.getElem?_toArray, List.getElem?_cons_succ, List.getElem?_cons_zero, Act.put, zB];go_wp2_with fail;go_meet;exact ⟨_, rfl, A4.o.1, A4.o.2.row _, Below.rowNew Q4.o.b A4.o.1 _, by have := N1.o; have := N2.o; have := N3.o; omega⟩
    go_simp;have Q5 := jQ (Q2.o.next hgw ((Below.refl _ _).alloc (Nat.le_refl _) (.cells #[.string ⟨#[]⟩, .int .i64 0, .int .i64 0, .int .i64 0] 68)));have A5 := jQ (y7t Q2.o);refine hK.out _ _ Q5.o.s (fun hHeld => ?_);clear hK
    (try simp only [Act.put, zC, zB])
    refine wpAnyH_ready (rs := [18]) (by kernel_rfl) (by simp) ?_;refine zA rfl fun K hK => ?_;go_simp
    go_at_call 161
    refine (y0d v.a1 v.c1 f.st x3 _ Q5.o.rs hl1).mono ?_;rw [E3.o];rintro ee y6 ⟨he, hb⟩;by_cases hi : i3 < 0
    ·rw [if_pos hi] at he;subst he;have HX := jQ (show RR.1 = 5 by rw [HRR.o, if_pos (.inr (.inr hi))]);exact ⟨rfl, Fs2.no HX.o (by decide) (HB5.o.trans (But.of (Q5.o.next hgw hb).b))⟩
    rw [if_neg hi] at he;subst he;have N3 := jQ hi;have Q6 := jQ (Q5.o.next hgw hb);have A6 := jQ (And.intro A5.o.1 (A5.o.2.below hb A5.o.2.lt));clear hi hb
    (try go_wp2_with fail)
    refine hK.out _ _ Q6.o.s (fun hHeld => ?_);clear hK
    (try simp only [Act.put, zC, zB])
    refine wpAnyH_take (i := 19) (v := ?_) rfl (by kernel_rfl) (by kernel_rfl) (by kernel_rfl) (fun _ _ _ h => h) (Or.inl ⟨by rfl, ?_⟩) (by assumption) ?_;rotate_left
    ·(intro w hSw; obtain ⟨c0, c1⟩ := hSw; go_simp <;> with_reducible rfl)
    (try simp only [Act.put, zC, zB])
    refine wpAnyH_ready (rs := [21]) (by kernel_rfl) (by simp) ?_;refine zA rfl fun K hK => ?_;rw [if_pos (by rfl)];refine wp_store_row 68 (.tmp 8) (.tmp 38) rfl _ #[.string ⟨x0.toArray⟩, .int .i64 i1, .int .i64 i2, .int .i64 i3] rfl rfl 68 _ A6.o.2 (by kernel_rfl) rfl (by kernel_rfl) ?_;have hne : g ≠ _ := Nat.ne_of_lt (Nat.lt_of_lt_of_le hgw A6.o.1);refine hK.out _ _ ⟨(Q6.o.rowN hne _).1, (Q6.o.rowN hne _).2⟩ (fun hHeld => ?_);clear hK;refine wpAnyH_done (by kernel_rfl) ?_ _;simp only [List.getElem?_toArray, List.getElem?_cons_succ, List.getElem?_cons_zero, Act.put, zB];go_wp2_with fail;go_meet;exact ⟨_, rfl, A6.o.1, A6.o.2.row _, Below.rowNew Q6.o.b A6.o.1 _, by have := N1.o; have := N2.o; have := N3.o; omega⟩
   go_simp;have Q7 := jQ (Q1.o.next hgw ((Below.refl _ _).alloc (Nat.le_refl _) (.cells #[.string ⟨#[]⟩, .int .i64 0, .int .i64 0, .int .i64 0] 68)));have A7 := jQ (y7t Q1.o);refine hK.out _ _ Q7.o.s (fun hHeld => ?_);clear hK
   (try simp only [Act.put, zC, zB])
   refine wpAnyH_ready (rs := [12]) (by kernel_rfl) (by simp) ?_;refine zA rfl fun K hK => ?_;go_simp
   go_at_call 161
   refine (y0d v.a1 v.c1 f.st x2 _ Q7.o.rs hl1).mono ?_;rw [E2.o];rintro ee y8 ⟨he, hb⟩;by_cases hi : i2 < 0
   ·rw [if_pos hi] at he;subst he;have HX := jQ (show RR.1 = 5 by rw [HRR.o, if_pos (.inr (.inl hi))]);exact ⟨rfl, Fs2.no HX.o (by decide) (HB5.o.trans (But.of (Q7.o.next hgw hb).b))⟩
   rw [if_neg hi] at he;subst he;have N2 := jQ hi;have Q8 := jQ (Q7.o.next hgw hb);have A8 := jQ (And.intro A7.o.1 (A7.o.2.below hb A7.o.2.lt));clear hi hb
   (try go_wp2_with fail)
   refine hK.out _ _ Q8.o.s (fun hHeld => ?_);clear hK
   (try simp only [Act.put, zC, zB])
   refine wpAnyH_ready (rs := [18]) (by kernel_rfl) (by simp) ?_;refine zA rfl fun K hK => ?_;go_simp
   go_at_call 161
   refine (y0d v.a1 v.c1 f.st x3 _ Q8.o.rs hl1).mono ?_;rw [E3.o];rintro ee y9 ⟨he, hb⟩;by_cases hi : i3 < 0
   ·rw [if_pos hi] at he;subst he;have HX := jQ (show RR.1 = 5 by rw [HRR.o, if_pos (.inr (.inr hi))]);exact ⟨rfl, Fs2.no HX.o (by decide) (HB5.o.trans (But.of (Q8.o.next hgw hb).b))⟩
   rw [if_neg hi] at he;subst he;have N3 := jQ hi;have Q9 := jQ (Q8.o.next hgw hb);have A9 := jQ (And.intro A8.o.1 (A8.o.2.below hb A8.o.2.lt));clear hi hb
   (try go_wp2_with fail)
   refine hK.out _ _ Q9.o.s (fun hHeld => ?_);clear hK
   (try simp only [Act.put, zC, zB])
   refine wpAnyH_take (i := 19) (v := ?_) rfl (by kernel_rfl) (by kernel_rfl) (by kernel_rfl) (fun _ _ _ h => h) (Or.inl ⟨by rfl, ?_⟩) (by assumption) ?_;rotate_left
   ·(intro w hSw; obtain ⟨c0, c1⟩ := hSw; go_simp <;> with_reducible rfl)
   (try simp only [Act.put, zC, zB])
   refine wpAnyH_ready (rs := [21]) (by kernel_rfl) (by simp) ?_;refine zA rfl fun K hK => ?_;rw [if_pos (by rfl)];refine wp_store_row 68 (.tmp 8) (.tmp 38) rfl _ #[.string ⟨x0.toArray⟩, .int .i64 i1, .int .i64 i2, .int .i64 i3] rfl rfl 68 _ A9.o.2 (by kernel_rfl) rfl (by kernel_rfl) ?_;have hne : g ≠ _ := Nat.ne_of_lt (Nat.lt_of_lt_of_le hgw A9.o.1);refine hK.out _ _ ⟨(Q9.o.rowN hne _).1, (Q9.o.rowN hne _).2⟩ (fun hHeld => ?_);clear hK;refine wpAnyH_done (by kernel_rfl) ?_ _;simp only [List.getElem?_toArray, List.getElem?_cons_succ, List.getElem?_cons_zero, Act.put, zB];go_wp2_with fail;go_meet;exact ⟨_, rfl, A9.o.1, A9.o.2.row _, Below.rowNew Q9.o.b A9.o.1 _, by have := N1.o; have := N2.o; have := N3.o; omega⟩
  go_simp;have Q10 := jQ (HQ.o.next hgw ((Below.refl _ _).alloc (Nat.le_refl _) (.cells #[.string ⟨#[]⟩, .int .i64 0, .int .i64 0, .int .i64 0] 68)));have A10 := jQ (y7t HQ.o);refine hK.out _ _ Q10.o.s (fun hHeld => ?_);clear hK
  (try simp only [Act.put, zC, zB])
  refine wpAnyH_ready (rs := [6]) (by kernel_rfl) (by simp) ?_;refine zA rfl fun K hK => ?_;go_simp
  go_at_call 160
  refine (y1R v.a2 v.c2 f.li x1 _ Q10.o.rl hl2).mono ?_;rw [E1.o];rintro ee y11 ⟨he, hb⟩;by_cases hi : i1 < 0
  ·rw [if_pos hi] at he;subst he;have HX := jQ (show RR.1 = 5 by rw [HRR.o, if_pos (.inl hi)]);exact ⟨rfl, Fs2.no HX.o (by decide) (HB5.o.trans (But.of (Q10.o.next hgw hb).b))⟩
  rw [if_neg hi] at he;subst he;have N1 := jQ hi;have Q11 := jQ (Q10.o.next hgw hb);have A11 := jQ (And.intro A10.o.1 (A10.o.2.below hb A10.o.2.lt));clear hi hb
  (try go_wp2_with fail)
  refine hK.out _ _ Q11.o.s (fun hHeld => ?_);clear hK
  (try simp only [Act.put, zC, zB])
  refine wpAnyH_ready (rs := [12]) (by kernel_rfl) (by simp) ?_;refine zA rfl fun K hK => ?_;go_simp
  go_at_call 161
  refine (y0d v.a1 v.c1 f.st x2 _ Q11.o.rs hl1).mono ?_;rw [E2.o];rintro ee y12 ⟨he, hb⟩;by_cases hi : i2 < 0
  ·rw [if_pos hi] at he;subst he;have HX := jQ (show RR.1 = 5 by rw [HRR.o, if_pos (.inr (.inl hi))]);exact ⟨rfl, Fs2.no HX.o (by decide) (HB5.o.trans (But.of (Q11.o.next hgw hb).b))⟩
  rw [if_neg hi] at he;subst he;have N2 := jQ hi;have Q12 := jQ (Q11.o.next hgw hb);have A12 := jQ (And.intro A11.o.1 (A11.o.2.below hb A11.o.2.lt));clear hi hb
  (try go_wp2_with fail)
  refine hK.out _ _ Q12.o.s (fun hHeld => ?_);clear hK
  (try simp only [Act.put, zC, zB])
  refine wpAnyH_ready (rs := [18]) (by kernel_rfl) (by simp) ?_;refine zA rfl fun K hK => ?_;go_simp
  go_at_call 161
  refine (y0d v.a1 v.c1 f.st x3 _ Q12.o.rs hl1).mono ?_;rw [E3.o];rintro ee y13 ⟨he, hb⟩;by_cases hi : i3 < 0
  ·rw [if_pos hi] at he;subst he;have HX := jQ (show RR.1 = 5 by rw [HRR.o, if_pos (.inr (.inr hi))]);exact ⟨rfl, Fs2.no HX.o (by decide) (HB5.o.trans (But.of (Q12.o.next hgw hb).b))⟩
  rw [if_neg hi] at he;subst he;have N3 := jQ hi;have Q13 := jQ (Q12.o.next hgw hb);have A13 := jQ (And.intro A12.o.1 (A12.o.2.below hb A12.o.2.lt));clear hi hb
  (try go_wp2_with fail)
  refine hK.out _ _ Q13.o.s (fun hHeld => ?_);clear hK
  (try simp only [Act.put, zC, zB])
  refine wpAnyH_take (i := 19) (v := ?_) rfl (by kernel_rfl) (by kernel_rfl) (by kernel_rfl) (fun _ _ _ h => h) (Or.inl ⟨by rfl, ?_⟩) (by assumption) ?_;rotate_left
  ·(intro w hSw; obtain ⟨c0, c1⟩ := hSw; go_simp <;> with_reducible rfl)
  (try simp only [Act.put, zC, zB])
  refine wpAnyH_ready (rs := [21]) (by kernel_rfl) (by simp) ?_;refine zA rfl fun K hK => ?_;rw [if_pos (by rfl)];refine wp_store_row 68 (.tmp 8) (.tmp 38) rfl _ #[.string ⟨x0.toArray⟩, .int .i64 i1, .int .i64 i2, .int .i64 i3] rfl rfl 68 _ A13.o.2 (by kernel_rfl) rfl (by kernel_rfl) ?_;have hne : g ≠ _ := Nat.ne_of_lt (Nat.lt_of_lt_of_le hgw A13.o.1);refine hK.out _ _ ⟨(Q13.o.rowN hne _).1, (Q13.o.rowN hne _).2⟩ (fun hHeld => ?_);clear hK;refine wpAnyH_done (by kernel_rfl) ?_ _;simp only [List.getElem?_toArray, List.getElem?_cons_succ, List.getElem?_cons_zero, Act.put, zB];go_wp2_with fail;go_meet;exact ⟨_, rfl, A13.o.1, A13.o.2.row _, Below.rowNew Q13.o.b A13.o.1 _, by have := N1.o; have := N2.o; have := N3.o; omega⟩
 obtain ⟨ga, rfl, hga, hka, hbx, hnn⟩ := hcut;have hf6 := HF5.o.keep (X := fun _ => False) (But.of hbx) (fun k hk => hk.elim);have hi1 : 0 <= i1 := by omega
 have hwr : IntKind.i64.wrap (i1 + 1) = i1 + 1 := IntWalk.i64_in _ (by omega);have HF6 := jQ hf6;have HKA := jQ hka;have HBX := jQ (HB5.o.trans (But.of hbx));have HNN := jQ hnn;have HGA := jQ hga;have hS3 : (fun V : World => V.cell? ⟨ga, 1, none⟩ = some (.int .i64 i1) /\ V.cell? ⟨g, 1, none⟩ = some (.slice v.a2 f.li.length v.c2)) wc.drew := ⟨(hka.cell 1).trans rfl, (hf6.k.cell 1).trans rfl⟩;have HS3 := jQ hS3;clear hka hf6 hbx hnn hS3 hga;go_upto_region 3 with fail;refine wp_region_held_drew (S := fun V : World => V.cell? ⟨ga, 1, none⟩ = some (.int .i64 i1) /\ V.cell? ⟨g, 1, none⟩ = some (.slice v.a2 f.li.length v.c2)) (by kernel_rfl) HS3.o (fun hHeld => ?_);simp only [List.size_toArray, List.length_cons, List.length_nil, Nat.reduceAdd, Array.replicate_succ, Array.replicate_zero, List.push_toArray, List.append_toArray, List.nil_append, List.cons_append];refine wpAnyH_take (i := 0) (v := ?_) rfl (by kernel_rfl) (by kernel_rfl) (by kernel_rfl) (fun _ _ _ h => h) (Or.inl ⟨by rfl, ?_⟩) (by assumption) ?_;rotate_left
 ·(intro w hSw; obtain ⟨c0, c1⟩ := hSw; go_simp <;> with_reducible rfl)
 (try simp only [Act.put, zC, zB])
 refine wpAnyH_take (i := 1) (v := ?_) rfl (by kernel_rfl) (by kernel_rfl) (by kernel_rfl) (fun _ _ _ h => h) (Or.inl ⟨by rfl, ?_⟩) (by assumption) ?_;rotate_left
 ·(intro w hSw; obtain ⟨c0, c1⟩ := hSw; go_simp <;> with_reducible rfl)
 (try simp only [Act.put, zC, zB])
 refine wpAnyH_take (i := 2) (v := ?_) rfl (by kernel_rfl) (by kernel_rfl) (by kernel_rfl) (fun _ _ _ h => h) (Or.inl ⟨by rfl, ?_⟩) (by assumption) ?_;rotate_left
 ·(intro w hSw; obtain ⟨c0, c1⟩ := hSw; go_simp <;> with_reducible rfl)
 (try simp only [Act.put, zC, zB])
 refine wpAnyH_take (i := 3) (v := ?_) rfl (by kernel_rfl) (by kernel_rfl) (by kernel_rfl) (fun _ _ _ h => h) (Or.inl ⟨by rfl, ?_⟩) (by assumption) ?_;rotate_left
 ·(intro w hSw; obtain ⟨c0, c1⟩ := hSw; go_simp <;> with_reducible rfl)
 (try simp only [Act.put, zC, zB])
 refine wpAnyH_take (i := 4) (v := ?_) rfl (by kernel_rfl) (by kernel_rfl) (by kernel_rfl) (fun _ _ _ h => h) (Or.inl ⟨by rfl, ?_⟩) (by assumption) ?_;rotate_left
 ·(intro w hSw; obtain ⟨c0, c1⟩ := hSw; go_simp <;> with_reducible rfl)
 (try simp only [Act.put, zC, zB])
 refine wpAnyH_take (i := 5) (v := ?_) rfl (by kernel_rfl) (by kernel_rfl) (by kernel_rfl) (fun _ _ _ h => h) (Or.inl ⟨by rfl, ?_⟩) (by assumption) ?_;rotate_left
 ·(intro w hSw; obtain ⟨c0, c1⟩ := hSw; go_simp <;> with_reducible rfl)
 (try simp only [Act.put, zC, zB])
 refine wpAnyH_take (i := 6) (v := ?_) rfl (by kernel_rfl) (by kernel_rfl) (by kernel_rfl) (fun _ _ _ h => h) (Or.inl ⟨by rfl, ?_⟩) (by assumption) ?_;rotate_left
 ·(intro w hSw; obtain ⟨c0, c1⟩ := hSw; go_simp <;> with_reducible rfl)
 (try simp only [Act.put, zC, zB])
 refine wpAnyH_take (i := 7) (v := ?_) rfl (by kernel_rfl) (by kernel_rfl) (by kernel_rfl) (fun _ _ _ h => h) (Or.inl ⟨by rfl, ?_⟩) (by assumption) ?_;rotate_left
 ·(intro w hSw; obtain ⟨c0, c1⟩ := hSw; go_simp <;> with_reducible rfl)
 (try simp only [Act.put, zC, zB])
 refine wpAnyH_take (i := 8) (v := ?_) rfl (by kernel_rfl) (by kernel_rfl) (by kernel_rfl) (fun _ _ _ h => h) (Or.inl ⟨by rfl, ?_⟩) (by assumption) ?_;rotate_left
 ·(intro w hSw; obtain ⟨c0, c1⟩ := hSw; go_simp <;> with_reducible rfl)
 (try simp only [Act.put, zC, zB])
 refine wpAnyH_ready (rs := [9]) (by kernel_rfl) (by simp) ?_;refine zA rfl fun K hK => ?_;by_cases hlt : i1 + 1 < f.li.length
 ·have g8 : decide (i1 + 1 < (f.li.length : Int)) = true := decide_eq_true hlt;have HX := jQ (show RR = (0, { f with pa := f.pa ++ [⟨x0, i1, i2, i3⟩] }) by rw [HRR.o, if_neg HNN.o, if_pos hlt]);clear hlt;go_simp
  go_at_call 151
  refine (y0L 1 _).mono ?_;rintro ee w6 ⟨rfl, hb⟩;have hbw : Below wc.heap.size wc w6 := (Below.refl wc.heap.size wc).drew.trans hb;have hf7 := HF6.o.keep (X := fun _ => False) (But.of hbw) (fun k hk => hk.elim);have hk7 := HKA.o.below hbw HKA.o.lt;have HF7 := jQ hf7;have HB7 := jQ (HBX.o.trans (But.of hbw))
  (try go_wp2_with fail)
  refine hK.out _ _ ⟨(hk7.cell 1).trans rfl, (hf7.k.cell 1).trans rfl⟩ (fun hHeld => ?_);clear hK hHeld;refine wpAnyH_done (by kernel_rfl) ?_ _
  (try simp only [Act.put, zC, zB])
  have c1 := (hf7.k.cell 2).trans rfl;have y0 := (hk7.cell 0).trans rfl;have y1 := (hk7.cell 1).trans rfl;have y2 := (hk7.cell 2).trans rfl;have y3 := (hk7.cell 3).trans rfl;have hl3 := hf7.l3;have hle := hf7.le;have ho := hf7.o3;have hlt := hf7.k.lt;have hgB := hf7.gB;have HK7 := jQ hf7.k;have hcw : ∀ o, (w6.alloc o).cell? ⟨g, 2, none⟩ = some (.slice v.a3 f.pa.length v.c3) := fun o => (World.cell?_of_block (Below.heap_alloc _ _ _ hlt)).trans c1;have HNG := jQ (show ¬ (Value.slice v.a3 f.pa.length v.c3).ownBlock = some g from fun e => by have := y0E hf7.o3 g e; omega);clear hf7 hk7 hbw hb;simp only [y6T] at ho;go_upto_region 4 with fail
  go_region_law (refine step_append_lies _ (by rfl) _ _ _ (by rfl) B 68 i0 _ 4 40 Tryz.underlying24 hi0 hz0 hz1 hz2 rfl (by omega) (.slice v.a3 f.pa.length v.c3) f.pa.length (pcells f.pa) (by rfl) ((ho.alloc _).drew) ⟨w6.heap.size, 0, none⟩ 1 1 [.string ⟨x0.toArray⟩, .int .i64 i1, .int .i64 i2, .int .i64 i3] (by rfl) (by rfl) (World.news_of_block (cs := #[.string ⟨x0.toArray⟩, .int .i64 i1, .int .i64 i2, .int .i64 i3]) (t := 68) (fr := (0, 0)) (World.alloc_heap_new w6 _)) (by simp [Value.oneCell']) (by omega) (by unfold maxLen; omega) (by omega) (by simp; omega) (w6.heap.size + 1) (by simp) ?_; intro gn cn w4 hown hgrow hat hlt4; have hk4 := (But.grown hgrow).bk ((HK7.o.alloc (.cells #[.string ⟨x0.toArray⟩, .int .i64 i1, .int .i64 i2, .int .i64 i3] 68)).drewB') HNG.o; have q1 := (hk4.cell 2).trans rfl; have q2 := hk4.frozen 2; have q3 := hk4.lt)
  all_goals
   obtain ⟨R', v', h1, h2, h3⟩ := HF7.o.more3 (n := ⟨x0, i1, i2, i3⟩) HNL0.o (((Below.refl w6.heap.size w6).alloc (Nat.le_refl _) (.cells #[.string ⟨x0.toArray⟩, .int .i64 i1, .int .i64 i2, .int .i64 i3] 68)).drew) hown hgrow (by rcases hat with e | e; exact .inl e; exact .inr (by omega));have H1 := jQ h1;have H2 := jQ h2;have H3 := jQ h3;clear h1 h2 h3 hk4 hown hgrow hat hlt4;go_wp2_with fail
   go_end0
   have hb3 := HB7.o;refine ⟨(hb3.mono (fun k h => .inl h)).trans (H2.o.mono (fun k h => .inr h)), .inl ⟨by rw [HX.o], rfl, R', v', by rw [HX.o]; exact H1.o, fun k hk => ?_⟩⟩;rcases H3.o k hk with e | e
   ·exact .inl e
   exact .inr (Nat.le_trans hb3.size e)
 have g8 : decide (i1 + 1 < (f.li.length : Int)) = false := decide_eq_false hlt;have HX := jQ (show RR.1 = 1 by rw [HRR.o, if_neg HNN.o, if_neg hlt]);clear hlt;go_simp
 go_at_call 151
 refine (y0U 1 _).mono ?_;rintro ee w6 ⟨rfl, hb⟩;exact ⟨rfl, Fs2.no HX.o (by decide) (HBX.o.trans (But.of ((Below.refl wc.heap.size wc).drew.trans hb)))⟩
end
end Go.Proofs.YtccikcpcfdjobaaGreatDoor
