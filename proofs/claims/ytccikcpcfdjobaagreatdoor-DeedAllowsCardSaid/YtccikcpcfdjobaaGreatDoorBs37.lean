/-
  What the claim needs: contracts.
-/
import Derived.JoinedOf
import Derived.Test.YtccikcpcfdjobaaGreatDoorBs32
import Derived.Test.YtccikcpcfdjobaaGreatDoorBs33
import Derived.Test.YtccikcpcfdjobaaGreatDoorCards
set_option linter.unusedVariables false
set_option linter.unusedSimpArgs false
set_option maxHeartbeats 8000000
set_option maxRecDepth 100000
namespace Go.Proofs.YtccikcpcfdjobaaGreatDoor
section
open Go.RowKit
theorem y1M {l : List Cs.Bs} {d : Dd.Dr} {r : List Cs.Bs} (h : Dd.draftE l = some (d, r)) : d.c.o = 0 /\ d.c.b = 0 := by
 unfold Dd.draftE at h;rcases hm : Dd.draftM l with _ | ⟨d', r'⟩
 ·rw [hm] at h; cases h
 rw [hm] at h;have hd : d' = d := by
  rcases r' with _ | ⟨x, r'⟩
  ·simp [Dd.endW] at h;exact h.1
  simp [Dd.endW] at h
 subst hd;clear h;rcases l with _ | ⟨k, l⟩
 ·cases hm
 simp only [Dd.draftM] at hm;have key : ∀ {α : Type} {o : Option α} {g : α -> Option (Dd.Dr × List Cs.Bs)} {z : Dd.Dr × List Cs.Bs}, o.bind g = some z -> ∃ a, g a = some z := fun {α o g z} h => by
  rcases o with _ | a
  ·cases h
  exact ⟨a, h⟩
 split at hm
 ·unfold Dd.stoneM at hm;obtain ⟨_, hm⟩ := key hm; obtain ⟨_, hm⟩ := key hm; obtain ⟨_, hm⟩ := key hm; obtain ⟨_, hm⟩ := key hm;cases hm; exact ⟨rfl, rfl⟩
 split at hm
 ·unfold Dd.widthM at hm;obtain ⟨_, hm⟩ := key hm; obtain ⟨_, hm⟩ := key hm; obtain ⟨_, hm⟩ := key hm; obtain ⟨_, hm⟩ := key hm; obtain ⟨_, hm⟩ := key hm;cases hm; exact ⟨rfl, rfl⟩
 split at hm
 ·unfold Dd.courseM at hm;obtain ⟨_, hm⟩ := key hm; obtain ⟨_, hm⟩ := key hm; obtain ⟨_, hm⟩ := key hm; obtain ⟨_, hm⟩ := key hm; obtain ⟨_, hm⟩ := key hm;obtain ⟨_, hm⟩ := key hm; obtain ⟨_, hm⟩ := key hm; obtain ⟨_, hm⟩ := key hm; obtain ⟨_, hm⟩ := key hm; obtain ⟨_, hm⟩ := key hm;cases hm; exact ⟨rfl, rfl⟩
 split at hm
 ·unfold Dd.alongM at hm;obtain ⟨_, hm⟩ := key hm; obtain ⟨_, hm⟩ := key hm; obtain ⟨_, hm⟩ := key hm; obtain ⟨_, hm⟩ := key hm;cases hm; exact ⟨rfl, rfl⟩
 split at hm
 ·unfold Dd.levelM at hm;obtain ⟨_, hm⟩ := key hm; obtain ⟨_, hm⟩ := key hm; obtain ⟨_, hm⟩ := key hm; obtain ⟨_, hm⟩ := key hm; obtain ⟨_, hm⟩ := key hm;cases hm; exact ⟨rfl, rfl⟩
 cases hm
structure Rb4 (W0 : World) (gS gF gY gC : Nat) (v : Fv) (f : Dd.Fd) (s : Cs.Bs) (y : Int) (W : World) : Prop where
 b : Below W0.heap.size W0 W
 kS : Bk W gS 9 #[.string ⟨s.toArray⟩]
 kF : Bk W gF 27 #[.slice v.a1 f.st.length v.c1, .slice v.a2 f.li.length v.c2, .slice v.a3 f.pa.length v.c3, .slice v.a4 f.va.length v.c4]
 kY : Bk W gY 3 #[.int .i64 y]
 kC : Bk W gC 48 zero13
 rd : FRd W W.heap.size v f
 env : Env W
section
variable {W0 W W' : World} {gS gF gY gC : Nat} {v : Fv} {f : Dd.Fd} {s : Cs.Bs} {y : Int}
theorem Rb4.next (h : Rb4 W0 gS gF gY gC v f s y W) (hb : Below W.heap.size W W') : Rb4 W0 gS gF gY gC v f s y W' :=
 ⟨h.b.trans (hb.mono h.b.size), h.kS.below hb h.kS.lt, h.kF.below hb h.kF.lt, h.kY.below hb h.kY.lt, h.kC.below hb h.kC.lt, (h.rd.below hb (Nat.le_refl _)).more hb.size, h.env.step hb⟩
end
def RcS (v : Fv) (f : Dd.Fd) (s : Cs.Bs) (y : Int) (gS gF gY : Nat) (V : World) : Prop := ((V.cell? ⟨gS, 0, none⟩ = some (.string ⟨s.toArray⟩) /\ V.cell? ⟨gY, 0, none⟩ = some (.int .i64 y)) /\ ((V.cell? ⟨gF, 0, none⟩ = some (.slice v.a1 f.st.length v.c1) /\ V.cell? ⟨gF, 1, none⟩ = some (.slice v.a2 f.li.length v.c2)) /\ (V.cell? ⟨gF, 2, none⟩ = some (.slice v.a3 f.pa.length v.c3) /\ V.cell? ⟨gF, 3, none⟩ = some (.slice v.a4 f.va.length v.c4))))
theorem Rb4.cells {W0 V : World} {gS gF gY gC : Nat} {v : Fv} {f : Dd.Fd} {s : Cs.Bs} {y : Int} (h : Rb4 W0 gS gF gY gC v f s y V) : RcS v f s y gS gF gY V :=
 ⟨⟨(h.kS.cell 0).trans rfl, (h.kY.cell 0).trans rfl⟩, ⟨(h.kF.cell 0).trans rfl, (h.kF.cell 1).trans rfl⟩, (h.kF.cell 2).trans rfl, (h.kF.cell 3).trans rfl⟩
theorem y4A (v : Fv) (f : Dd.Fd) (s : Cs.Bs) (y : Int) (gS gF gY gC : Nat) (W : World) (h : Rb4 W gS gF gY gC v f s y W) (hs : s.length <= 999999) (hn : Dd.draftE (Dd.fieldsF s) = none) :
  Calls Tryz.prog 101 #[.pointer (some ⟨gS, 0, none⟩), .pointer (some ⟨gF, 0, none⟩), .pointer (some ⟨gY, 0, none⟩), .pointer (some ⟨gC, 0, none⟩)] W fun e w' => e = .panicked [pan 4] /\ Below W.heap.size W w' := by
 have HS := jQ (h.next (Below.refl _ _).drew);have HN := jQ hn;clear h hn;go_enter Tryz.func101, Tryz.ntmps101;refine wp_region_held_drew (S := RcS v f s y gS gF gY) (by kernel_rfl) HS.o.cells (fun hHeld => ?_);simp only [List.size_toArray, List.length_cons, List.length_nil, Nat.reduceAdd, Array.replicate_succ, Array.replicate_zero, List.push_toArray, List.append_toArray, List.nil_append, List.cons_append];refine wpAnyH_take (i := 0) (v := ?_) rfl (by kernel_rfl) (by kernel_rfl) (by kernel_rfl) (fun _ _ _ h => h) (Or.inl ⟨by rfl, ?_⟩) (by assumption) ?_;rotate_left
 ·(intro w hSw; obtain ⟨⟨c0, c1⟩, ⟨c2, c3⟩, c4, c5⟩ := hSw; go_simp <;> with_reducible rfl)
 (try simp only [Act.put, zB])
 refine wpAnyH_take (i := 3) (v := ?_) rfl (by kernel_rfl) (by kernel_rfl) (by kernel_rfl) (fun _ _ _ h => h) (Or.inl ⟨by rfl, ?_⟩) (by assumption) ?_;rotate_left
 ·(intro w hSw; obtain ⟨⟨c0, c1⟩, ⟨c2, c3⟩, c4, c5⟩ := hSw; go_simp <;> with_reducible rfl)
 (try simp only [Act.put, zB])
 refine wpAnyH_take (i := 4) (v := ?_) rfl (by kernel_rfl) (by kernel_rfl) (by kernel_rfl) (fun _ _ _ h => h) (Or.inl ⟨by rfl, ?_⟩) (by assumption) ?_;rotate_left
 ·(intro w hSw; obtain ⟨⟨c0, c1⟩, ⟨c2, c3⟩, c4, c5⟩ := hSw; go_simp <;> with_reducible rfl)
 (try simp only [Act.put, zB])
 refine wpAnyH_ready (rs := [1]) (by kernel_rfl) (by simp) ?_;refine zA rfl fun K hK => ?_;go_simp
 (go_at_call 103; refine (y1V s hs _ HS.o.env).mono ?_; rintro e w1 ⟨b, hb0, rfl, hz, hb⟩; have S1 := jQ (HS.o.next hb); have Z1 := jQ hz; have B1 := jQ hb0; clear hz hb hb0)
 (try go_wp2_with fail)
 refine hK.out _ _ S1.o.cells (fun hHeld => ?_);clear hK
 (try simp only [Act.put, zB])
 refine wpAnyH_ready (rs := [2]) (by kernel_rfl) (by simp) ?_;refine zA rfl fun K hK => ?_;go_simp
 go_at_call 102
 refine (y0W b _ _ S1.o.env Z1.o).mono ?_;intro e w2 he;obtain ⟨rfl, hb2⟩ := he.none_ HN.o;exact ⟨rfl, rfl, But.back S1.o.b hb2 (fun k hk => by subst hk; exact B1.o) S1.o.b.size⟩
theorem y5H (v : Fv) (f : Dd.Fd) (s : Cs.Bs) (y : Int) (gS gF gY gC : Nat) (W : World) (h : Rb4 W gS gF gY gC v f s y W) (hs : s.length <= 999999) (h0 : Dd.fieldE f = 0) (d : Dd.Dr) (r : List Cs.Bs) (hn : Dd.draftE (Dd.fieldsF s) = some (d, r)) (hi : (Dd.inF f y d).1 ≠ 0) :
  Calls Tryz.prog 101 #[.pointer (some ⟨gS, 0, none⟩), .pointer (some ⟨gF, 0, none⟩), .pointer (some ⟨gY, 0, none⟩), .pointer (some ⟨gC, 0, none⟩)] W fun e w' => e = .panicked [pan (Dd.inF f y d).1] /\ Below W.heap.size W w' := by
 have HS := jQ (h.next (Below.refl _ _).drew);have HN := jQ hn;have H0 := jQ h0;have HD := jQ (y1M hn);have HI := jQ hi;clear h hn h0 hi;go_enter Tryz.func101, Tryz.ntmps101;refine wp_region_held_drew (S := RcS v f s y gS gF gY) (by kernel_rfl) HS.o.cells (fun hHeld => ?_);simp only [List.size_toArray, List.length_cons, List.length_nil, Nat.reduceAdd, Array.replicate_succ, Array.replicate_zero, List.push_toArray, List.append_toArray, List.nil_append, List.cons_append];refine wpAnyH_take (i := 0) (v := ?_) rfl (by kernel_rfl) (by kernel_rfl) (by kernel_rfl) (fun _ _ _ h => h) (Or.inl ⟨by rfl, ?_⟩) (by assumption) ?_;rotate_left
 ·(intro w hSw; obtain ⟨⟨c0, c1⟩, ⟨c2, c3⟩, c4, c5⟩ := hSw; go_simp <;> with_reducible rfl)
 (try simp only [Act.put, zB])
 refine wpAnyH_take (i := 3) (v := ?_) rfl (by kernel_rfl) (by kernel_rfl) (by kernel_rfl) (fun _ _ _ h => h) (Or.inl ⟨by rfl, ?_⟩) (by assumption) ?_;rotate_left
 ·(intro w hSw; obtain ⟨⟨c0, c1⟩, ⟨c2, c3⟩, c4, c5⟩ := hSw; go_simp <;> with_reducible rfl)
 (try simp only [Act.put, zB])
 refine wpAnyH_take (i := 4) (v := ?_) rfl (by kernel_rfl) (by kernel_rfl) (by kernel_rfl) (fun _ _ _ h => h) (Or.inl ⟨by rfl, ?_⟩) (by assumption) ?_;rotate_left
 ·(intro w hSw; obtain ⟨⟨c0, c1⟩, ⟨c2, c3⟩, c4, c5⟩ := hSw; go_simp <;> with_reducible rfl)
 (try simp only [Act.put, zB])
 refine wpAnyH_ready (rs := [1]) (by kernel_rfl) (by simp) ?_;refine zA rfl fun K hK => ?_;go_simp
 (go_at_call 103; refine (y1V s hs _ HS.o.env).mono ?_; rintro e w1 ⟨b, hb0, rfl, hz, hb⟩; have S1 := jQ (show Rb4 W gS gF gY gC v f s y w1 /\ Below W.drew.heap.size W.drew w1 from ⟨HS.o.next hb, hb⟩); have Z1 := jQ hz; have B1 := jQ hb0; clear hz hb hb0)
 (try go_wp2_with fail)
 refine hK.out _ _ S1.o.1.cells (fun hHeld => ?_);clear hK
 (try simp only [Act.put, zB])
 refine wpAnyH_ready (rs := [2]) (by kernel_rfl) (by simp) ?_;refine zA rfl fun K hK => ?_;go_simp
 go_at_call 102
 refine (y0W b _ _ S1.o.1.env Z1.o).mono ?_;intro e w2 he;obtain ⟨rfl, hb2, _⟩ := he.some_ HN.o;have S2 := jQ (HS.o.next (But.back S1.o.2 hb2 (fun k hk => by subst hk; exact B1.o) S1.o.2.size));clear he hb2
 (try go_wp2_with fail)
 refine hK.out _ _ S2.o.cells (fun hHeld => ?_);clear hK
 (try simp only [Act.put, zB])
 refine wpAnyH_ready (rs := [5]) (by kernel_rfl) (by simp) ?_;refine zA rfl fun K hK => ?_;go_simp
 go_at_call 104
 refine (y7m v f d y _ S2.o.rd S2.o.env.sn H0.o (Nat.le_trans S2.o.env.gl (Nat.le_refl _)) HD.o).mono ?_;rintro e w3 ⟨he, hb3⟩;rw [if_neg HI.o] at he;subst he;exact ⟨rfl, rfl, (S2.o.next hb3).b⟩
theorem y49 (v : Fv) (f : Dd.Fd) (s : Cs.Bs) (y : Int) (gS gF gY gC : Nat) (W : World) (h : Rb4 W gS gF gY gC v f s y W) (hs : s.length <= 999999) (h0 : Dd.fieldE f = 0) (hC : W.heap.size > gC /\ gS ≠ gC /\ gF ≠ gC /\ gY ≠ gC) (d : Dd.Dr) (r : List Cs.Bs) (hn : Dd.draftE (Dd.fieldsF s) = some (d, r)) (hi : (Dd.inF f y d).1 = 0) :
  Calls Tryz.prog 101 #[.pointer (some ⟨gS, 0, none⟩), .pointer (some ⟨gF, 0, none⟩), .pointer (some ⟨gY, 0, none⟩), .pointer (some ⟨gC, 0, none⟩)] W fun e w' => e = .returned (.tuple #[]) /\ Bk w' gC 48 (cacell (Dd.inF f y d).2).toArray /\ But (fun k => k = gC) W w' := by
 have HS := jQ (h.next (Below.refl _ _).drew);have HN := jQ hn;have H0 := jQ h0;have HD := jQ (y1M hn);have HI := jQ hi;have HC := jQ hC;clear h hn h0 hi hC;go_enter Tryz.func101, Tryz.ntmps101;refine wp_region_held_drew (S := RcS v f s y gS gF gY) (by kernel_rfl) HS.o.cells (fun hHeld => ?_);simp only [List.size_toArray, List.length_cons, List.length_nil, Nat.reduceAdd, Array.replicate_succ, Array.replicate_zero, List.push_toArray, List.append_toArray, List.nil_append, List.cons_append];refine wpAnyH_take (i := 0) (v := ?_) rfl (by kernel_rfl) (by kernel_rfl) (by kernel_rfl) (fun _ _ _ h => h) (Or.inl ⟨by rfl, ?_⟩) (by assumption) ?_;rotate_left
 ·(intro w hSw; obtain ⟨⟨c0, c1⟩, ⟨c2, c3⟩, c4, c5⟩ := hSw; go_simp <;> with_reducible rfl)
 (try simp only [Act.put, zB])
 refine wpAnyH_take (i := 3) (v := ?_) rfl (by kernel_rfl) (by kernel_rfl) (by kernel_rfl) (fun _ _ _ h => h) (Or.inl ⟨by rfl, ?_⟩) (by assumption) ?_;rotate_left
 ·(intro w hSw; obtain ⟨⟨c0, c1⟩, ⟨c2, c3⟩, c4, c5⟩ := hSw; go_simp <;> with_reducible rfl)
 (try simp only [Act.put, zB])
 refine wpAnyH_take (i := 4) (v := ?_) rfl (by kernel_rfl) (by kernel_rfl) (by kernel_rfl) (fun _ _ _ h => h) (Or.inl ⟨by rfl, ?_⟩) (by assumption) ?_;rotate_left
 ·(intro w hSw; obtain ⟨⟨c0, c1⟩, ⟨c2, c3⟩, c4, c5⟩ := hSw; go_simp <;> with_reducible rfl)
 (try simp only [Act.put, zB])
 refine wpAnyH_ready (rs := [1]) (by kernel_rfl) (by simp) ?_;refine zA rfl fun K hK => ?_;go_simp
 (go_at_call 103; refine (y1V s hs _ HS.o.env).mono ?_; rintro e w1 ⟨b, hb0, rfl, hz, hb⟩; have S1 := jQ (show Rb4 W gS gF gY gC v f s y w1 /\ Below W.drew.heap.size W.drew w1 from ⟨HS.o.next hb, hb⟩); have Z1 := jQ hz; have B1 := jQ hb0; clear hz hb hb0)
 (try go_wp2_with fail)
 refine hK.out _ _ S1.o.1.cells (fun hHeld => ?_);clear hK
 (try simp only [Act.put, zB])
 refine wpAnyH_ready (rs := [2]) (by kernel_rfl) (by simp) ?_;refine zA rfl fun K hK => ?_;go_simp
 go_at_call 102
 refine (y0W b _ _ S1.o.1.env Z1.o).mono ?_;intro e w2 he;obtain ⟨rfl, hb2, _⟩ := he.some_ HN.o;have S2 := jQ (HS.o.next (But.back S1.o.2 hb2 (fun k hk => by subst hk; exact B1.o) S1.o.2.size));clear he hb2
 (try go_wp2_with fail)
 refine hK.out _ _ S2.o.cells (fun hHeld => ?_);clear hK
 (try simp only [Act.put, zB])
 refine wpAnyH_ready (rs := [5]) (by kernel_rfl) (by simp) ?_;refine zA rfl fun K hK => ?_;go_simp
 go_at_call 104
 refine (y7m v f d y _ S2.o.rd S2.o.env.sn H0.o (Nat.le_trans S2.o.env.gl (Nat.le_refl _)) HD.o).mono ?_;rintro e w3 ⟨he, hb3⟩;rw [if_pos HI.o] at he;subst he;have S3 := jQ (S2.o.next hb3);clear hb3;obtain ⟨C, hCC⟩ := zE ((Dd.inF f y d).2);rw [hCC];have HCC := jQ hCC;clear hCC
 (try go_wp2_with fail)
 refine hK.out _ _ S3.o.cells (fun hHeld => ?_);clear hK
 (try simp only [Act.put, zB])
 refine wpAnyH_ready (rs := [6]) (by kernel_rfl) (by simp) ?_;refine zA rfl fun K hK => ?_;rw [if_pos (by rfl)];refine wp_store_row 48 (.tmp 3) (.tmp 9) rfl gC (cacell C).toArray rfl rfl 48 _ S3.o.kC (by kernel_rfl) rfl (by kernel_rfl) ?_;refine hK.out _ _ ?_ (fun hHeld => ?_)
 ·obtain ⟨h1, h2, h3, h4⟩ := HC.o;have k1 := S3.o.kS.row_far h2 (cacell C).toArray;have k2 := S3.o.kF.row_far h3 (cacell C).toArray;have k3 := S3.o.kY.row_far h4 (cacell C).toArray;exact ⟨⟨(k1.cell 0).trans rfl, (k3.cell 0).trans rfl⟩, ⟨(k2.cell 0).trans rfl, (k2.cell 1).trans rfl⟩, (k2.cell 2).trans rfl, (k2.cell 3).trans rfl⟩
 refine wpAnyH_done (by kernel_rfl) ?_ _;refine ⟨rfl, _, results_none rfl _ _ _, rfl, by rw [HCC.o]; exact S3.o.kC.row _, But.row (X := fun k => k = gC) (But.of S3.o.b) rfl _⟩
end

section
open Go.RowKit
theorem Dd.yCJ {f : Dd.Fd} {y : Int} {d : Dd.Dr} (h : (Dd.inF f y d).1 ≠ 0) : (Dd.inF f y d).2 = Dd.ca0 := by
 have key : ∀ (P : Prop) [Decidable P] (G : Int) (c : Dd.Ca), (if P then ((5 : Int), Dd.ca0) else if G = 0 then (0, c) else (G, Dd.ca0)).1 ≠ 0 -> (if P then ((5 : Int), Dd.ca0) else if G = 0 then (0, c) else (G, Dd.ca0)).2 = Dd.ca0 := by
  intro P _ G c h;by_cases hp : P
  ·simp [hp]
  by_cases hg : G = 0
  ·simp [hp, hg] at h
  simp [hp, hg]
 exact key _ _ _ h
def Dd.rcF (f : Dd.Fd) (s : Cs.Bs) (y : Int) : Dd.Ca × Int := match Dd.draftF (Dd.fieldsF s) with | none => (Dd.ca0, 4) | some d => ((Dd.inF f y d).2, (Dd.inF f y d).1)
theorem y3S (v : Fv) (f : Dd.Fd) (s : Cs.Bs) (y : Int) (gS gF gY gC : Nat) (W : World) (h : Rb4 W gS gF gY gC v f s y W) (hs : s.length <= 999999) (h0 : Dd.fieldE f = 0) (hC : W.heap.size > gC /\ gS ≠ gC /\ gF ≠ gC /\ gY ≠ gC) :
  Calls Tryz.prog 100 #[.func (.func 101) #[] #[.pointer (some ⟨gS, 0, none⟩), .pointer (some ⟨gF, 0, none⟩), .pointer (some ⟨gY, 0, none⟩), .pointer (some ⟨gC, 0, none⟩)]] W fun e w' =>
   e = .returned (.int .i64 (Dd.rcF f s y).2) /\ Bk w' gC 48 (cacell (Dd.rcF f s y).1).toArray /\ But (fun k => k = gC) W w' := by
 have hb1 : Below W.heap.size W (W.alloc (.cells #[.int .i64 0] 31)) := (Below.refl _ _).alloc (Nat.le_refl _) _;have h1 : Rb4 (W.alloc (.cells #[.int .i64 0] 31)) gS gF gY gC v f s y (W.alloc (.cells #[.int .i64 0] 31)) :=
  ⟨Below.refl _ _, h.kS.below hb1 h.kS.lt, h.kF.below hb1 h.kF.lt, h.kY.below hb1 h.kY.lt, h.kC.below hb1 h.kC.lt, (h.rd.below hb1 (Nat.le_refl _)).more hb1.size, h.env.step hb1⟩
 have he : Bk (W.alloc (.cells #[.int .i64 0] 31)) W.heap.size 31 #[.int .i64 0] := Bk.new _ _ _;have hC1 : (W.alloc (.cells #[.int .i64 0] 31)).heap.size > gC /\ gS ≠ gC /\ gF ≠ gC /\ gY ≠ gC := ⟨Nat.lt_of_lt_of_le hC.1 hb1.size, hC.2⟩;have hz : zero13 = (cacell Dd.ca0).toArray := rfl;have hne : ¬ W.heap.size = gC := by omega
 have hent := enters_of Tryz.func101 (by kernel_rfl) rfl;rcases hn : Dd.draftE (Dd.fieldsF s) with _ | ⟨d, r⟩
 ·have hr : Dd.rcF f s y = (Dd.ca0, 4) := by unfold Dd.rcF; rw [Dd.y2Y, hn]; rfl
  rw [hr];refine (y2N 101 #[] _ (fun _ => False) (fun n V => n = 4 /\ Below (W.alloc (.cells #[.int .i64 0] 31)).heap.size (W.alloc (.cells #[.int .i64 0] 31)) V) W (fun W1 e1 => ?_) (fun _ h => h.elim) (fun n V hV => he.below hV.2 he.lt) hent).mono ?_
  ·subst e1;exact (y4A v f s y gS gF gY gC _ h1 hs hn).mono fun e w' ⟨e1, e2⟩ => .inr ⟨4, e1, rfl, e2⟩
  rintro e w' ⟨V, n, (⟨_, h⟩ | ⟨rfl, hV⟩), rfl, rfl⟩
  ·exact h.elim
  exact ⟨rfl, hz ▸ (h1.kC.below hV h1.kC.lt).far (p := ⟨W.heap.size, 0, none⟩) (Ne.symm hne) _, ((But.of hb1).trans (But.of hV)).new_set (p := ⟨W.heap.size, 0, none⟩) (Nat.le_refl _) _⟩
 have hr : Dd.rcF f s y = ((Dd.inF f y d).2, (Dd.inF f y d).1) := by unfold Dd.rcF; rw [Dd.y2Y, hn]; rfl
 rw [hr];by_cases hi : (Dd.inF f y d).1 = 0
 ·refine (y2N 101 #[] _ (fun V => Bk V gC 48 (cacell (Dd.inF f y d).2).toArray /\ But (fun k => k = gC) (W.alloc (.cells #[.int .i64 0] 31)) V) (fun _ _ => False) W (fun W1 e1 => ?_) (fun V hV => hV.2.bk he hne) (fun _ _ h => h.elim) hent).mono ?_
  ·subst e1;exact (y49 v f s y gS gF gY gC _ h1 hs h0 hC1 d r hn hi).mono fun e w' ⟨e1, e2, e3⟩ => .inl ⟨e1, e2, e3⟩
  rintro e w' ⟨V, n, (⟨rfl, hV⟩ | h), rfl, rfl⟩
  ·exact ⟨by rw [hi], hV.1.far (p := ⟨W.heap.size, 0, none⟩) (Ne.symm hne) _, ((But.of hb1).trans hV.2).new_set (p := ⟨W.heap.size, 0, none⟩) (Nat.le_refl _) _⟩
  exact h.elim
 refine (y2N 101 #[] _ (fun _ => False) (fun n V => n = (Dd.inF f y d).1 /\ Below (W.alloc (.cells #[.int .i64 0] 31)).heap.size (W.alloc (.cells #[.int .i64 0] 31)) V) W (fun W1 e1 => ?_) (fun _ h => h.elim) (fun n V hV => he.below hV.2 he.lt) hent).mono ?_
 ·subst e1;exact (y5H v f s y gS gF gY gC _ h1 hs h0 d r hn hi).mono fun e w' ⟨e1, e2⟩ => .inr ⟨_, e1, rfl, e2⟩
 rintro e w' ⟨V, n, (⟨_, h⟩ | ⟨rfl, hV⟩), rfl, rfl⟩
 ·exact h.elim
 exact ⟨rfl, by rw [Dd.yCJ hi]; exact (h1.kC.below hV h1.kC.lt).far (p := ⟨W.heap.size, 0, none⟩) (Ne.symm hne) _, ((But.of hb1).trans (But.of hV)).new_set (p := ⟨W.heap.size, 0, none⟩) (Nat.le_refl _) _⟩
structure Rc4 (w : World) (v : Fv) (f : Dd.Fd) (s : Cs.Bs) (y : Int) (W : World) : Prop where
 b : Below w.heap.size w W
 kF : Bk W w.heap.size 27 #[.slice v.a1 f.st.length v.c1, .slice v.a2 f.li.length v.c2, .slice v.a3 f.pa.length v.c3, .slice v.a4 f.va.length v.c4]
 kS : Bk W (w.heap.size + 1) 9 #[.string ⟨s.toArray⟩]
 kY : Bk W (w.heap.size + 1 + 1) 3 #[.int .i64 y]
 kR : Bk W (w.heap.size + 1 + 1 + 1) 48 zero13
 rd : FRd W W.heap.size v f
 env : Env W
section
variable {w W W' : World} {v : Fv} {f : Dd.Fd} {s : Cs.Bs} {y : Int}
theorem Rc4.next (h : Rc4 w v f s y W) (hb : Below W.heap.size W W') : Rc4 w v f s y W' :=
 ⟨h.b.trans (hb.mono h.b.size), h.kF.below hb h.kF.lt, h.kS.below hb h.kS.lt, h.kY.below hb h.kY.lt, h.kR.below hb h.kR.lt, (h.rd.below hb (Nat.le_refl _)).more hb.size, h.env.step hb⟩
theorem Rc4.new (hF : FRd w w.heap.size v f) (hE : Env w) : Rc4 w v f s y ((((w.alloc (.cells #[.slice v.a1 f.st.length v.c1, .slice v.a2 f.li.length v.c2, .slice v.a3 f.pa.length v.c3, .slice v.a4 f.va.length v.c4] 27)).alloc (.cells #[.string ⟨s.toArray⟩] 9)).alloc (.cells #[.int .i64 y] 3)).alloc (.cells zero13 48)) := by
 obtain ⟨w1, h1⟩ := zE (w.alloc (.cells #[.slice v.a1 f.st.length v.c1, .slice v.a2 f.li.length v.c2, .slice v.a3 f.pa.length v.c3, .slice v.a4 f.va.length v.c4] 27));have z1 : w1.heap.size = w.heap.size + 1 := by rw [<- h1]; simp
 have k1 : Bk w1 w.heap.size 27 #[.slice v.a1 f.st.length v.c1, .slice v.a2 f.li.length v.c2, .slice v.a3 f.pa.length v.c3, .slice v.a4 f.va.length v.c4] := by rw [<- h1]; exact Bk.new _ _ _
 have b1 : Below w.heap.size w w1 := by rw [<- h1]; exact (Below.refl _ _).alloc (Nat.le_refl _) _
 rw [h1];obtain ⟨w2, h2⟩ := zE (w1.alloc (.cells #[.string ⟨s.toArray⟩] 9));have z2 : w2.heap.size = w.heap.size + 1 + 1 := by rw [<- h2]; simp [z1]
 have k2 : Bk w2 (w.heap.size + 1) 9 #[.string ⟨s.toArray⟩] := by rw [<- h2, <- z1]; exact Bk.new _ _ _
 have b2 : Below w1.heap.size w1 w2 := by rw [<- h2]; exact (Below.refl _ _).alloc (Nat.le_refl _) _
 rw [h2];obtain ⟨w3, h3⟩ := zE (w2.alloc (.cells #[.int .i64 y] 3));have z3 : w3.heap.size = w.heap.size + 1 + 1 + 1 := by rw [<- h3]; simp [z2]
 have k3 : Bk w3 (w.heap.size + 1 + 1) 3 #[.int .i64 y] := by rw [<- h3, <- z2]; exact Bk.new _ _ _
 have b3 : Below w2.heap.size w2 w3 := by rw [<- h3]; exact (Below.refl _ _).alloc (Nat.le_refl _) _
 rw [h3];have k4 : Bk (w3.alloc (.cells zero13 48)) (w.heap.size + 1 + 1 + 1) 48 zero13 := by rw [<- z3]; exact Bk.new _ _ _
 have b4 : Below w3.heap.size w3 (w3.alloc (.cells zero13 48)) := (Below.refl _ _).alloc (Nat.le_refl _) _;have hB := ((b1.trans (b2.mono (by omega))).trans (b3.mono (by omega))).trans (b4.mono (by omega));exact ⟨hB, ((k1.below b2 k1.lt).below b3 (by omega)).below b4 (by omega), (k2.below b3 k2.lt).below b4 (by omega), k3.below b4 k3.lt, k4, (hF.below hB (Nat.le_refl _)).more hB.size, hE.step hB⟩
end
theorem y2e (v : Fv) (f : Dd.Fd) (s : Cs.Bs) (y : Int) (w : World) (hF : FRd w w.heap.size v f) (hE : Env w) (hs : s.length <= 999999) :
  Calls Tryz.prog 42 #[fval v f, .string ⟨s.toArray⟩, .int .i64 y] w fun e w' => e = .returned (.tuple #[caval (Dd.readF f s y).1, .int .i64 (Dd.readF f s y).2]) /\ Below w.heap.size w w' := by
 have hmf := zM;have hd : Dd.readF f s y = if Dd.fieldE f ≠ 0 then (Dd.ca0, Dd.fieldE f) else if ¬ (1 <= y /\ y <= 3000) then (Dd.ca0, 1) else if (10 : UInt8) ∈ s then (Dd.ca0, 4) else Dd.rcF f s y := rfl
 have S0 := jQ (Rc4.new (s := s) (y := y) hF hE);have B0 := jQ (fun W (h : Rc4 w v f s y W) => y0Y v f W h.rd);have B1 := jQ (fun W => y4T y W);have B2 := jQ (fun W (h : Rc4 w v f s y W) (m : Int) hm => Tryz.strings_Contains ⟨s.toArray⟩ ⟨#[10]⟩ m W (by simp [ByteArray.size]; omega) hm);have hcon : Lib.contains s [10] = decide ((10 : UInt8) ∈ s) := Dd.y5e 10 s;have B3 := jQ (fun (h0 : Dd.fieldE f = 0) gC W h hC => y3S v f s y (w.heap.size + 1) w.heap.size (w.heap.size + 1 + 1) gC W h hs h0 hC);rw [hd];obtain ⟨ef, hef⟩ := zE (Dd.fieldE f);rw [hef] at B0 B3 ⊢;obtain ⟨R, hR⟩ := zE (Dd.rcF f s y);rw [hR] at B3 ⊢;obtain ⟨rc, re⟩ := R;dsimp only at B3 ⊢;obtain ⟨n10, hn10⟩ := zE (decide ((10 : UInt8) ∈ s));simp only [] at B2;rw [hcon, hn10] at B2;obtain ⟨yr, hyr⟩ := zE (decide (1 <= y /\ y <= 3000));rw [hyr] at B1;simp only [y01] at B0 ⊢;have HE10 := jQ hn10;have HYR := jQ hyr;have c0 := (S0.o.kF.cell 0).trans rfl;have c1 := (S0.o.kF.cell 1).trans rfl;have c2 := (S0.o.kF.cell 2).trans rfl;have c3 := (S0.o.kF.cell 3).trans rfl;simp only [zero13] at S0 c0 c1 c2 c3;clear hd hF hE hef hR hcon hn10 hyr;by_cases he : ef = 0
 ·have B3' := jQ (B3.o he);have he1 : (ef != 0) = false := by simp [he]
  rw [if_neg (by simp [he])];clear he B3;rcases yr with _ | _
  ·have hy : ¬ (1 <= y /\ y <= 3000) := of_decide_eq_false HYR.o;rw [if_pos hy];clear hy B3' B2 HYR;go_enter Tryz.func42, Tryz.ntmps42;go_wp2_with fail;refine (B0.o _ S0.o).mono ?_;rintro ee w1 ⟨rfl, hb1⟩;have S1 := jQ (S0.o.next hb1);clear hb1 c0 c1 c2 c3;have y0 := (S1.o.kY.cell 0).trans rfl;go_wp2_with fail;refine (B1.o _).mono ?_;rintro ee w2 ⟨rfl, hb2⟩;have S2 := jQ (S1.o.next hb2);clear hb2 y0;go_wp2_with (refine wpList_store_row rfl 48 (.tmp 6) (.tmp 20) rfl (w.heap.size + 1 + 1 + 1) _ rfl rfl 48 _ S2.o.kR (by kernel_rfl) rfl (by kernel_rfl) ?_);exact bodyPost_ret (y08 rfl _ _ (w.heap.size + 1 + 1 + 1) 48 _ (0, 0) _ (.int .i64 1) rfl rfl (S2.o.kR.row _) Tryz.underlying48 rfl (by kernel_rfl)) rfl ⟨rfl, Below.rowNew S2.o.b (by omega) _⟩
  have hy : 1 <= y /\ y <= 3000 := of_decide_eq_true HYR.o;rw [if_neg (fun h => h hy)];clear hy HYR;rcases n10 with _ | _
  ·have h10 : ¬ (10 : UInt8) ∈ s := of_decide_eq_false HE10.o;rw [if_neg h10];clear h10 HE10;go_enter Tryz.func42, Tryz.ntmps42;go_wp2_with fail;refine (B0.o _ S0.o).mono ?_;rintro ee w1 ⟨rfl, hb1⟩;have S1 := jQ (S0.o.next hb1);clear hb1 c0 c1 c2 c3;have y0 := (S1.o.kY.cell 0).trans rfl;go_wp2_with fail;refine (B1.o _).mono ?_;rintro ee w2 ⟨rfl, hb2⟩;have S2 := jQ (S1.o.next hb2);clear hb2 y0;have y1 := (S2.o.kS.cell 0).trans rfl;obtain ⟨m, hm⟩ := S2.o.env.mx;go_wp2_with fail;refine (B2.o _ S2.o m hm).mono ?_;rintro ee w3 ⟨rfl, hw3⟩;rw [hw3];clear hm y1 hw3;have hb3 := (Below.refl w2.heap.size w2).alloc (Nat.le_refl _) (.cells zero13 48);have S3 := jQ (S2.o.next hb3);have hkc := Bk.new w2 48 zero13;have hsz : (w2.alloc (.cells zero13 48)).heap.size = w2.heap.size + 1 := by simp
   have hlr := S2.o.kR.lt;have hRB := jQ (B3'.o w2.heap.size _ ⟨Below.refl _ _, S3.o.kS, S3.o.kF, S3.o.kY, hkc, S3.o.rd, S3.o.env⟩ ⟨by omega, by omega, by omega, by omega⟩);have HLR := jQ hlr;simp only [zero13] at S3 hRB;clear hb3 hkc hsz hlr;go_wp2_with fail;refine hRB.o.mono ?_;rintro ee w4 ⟨rfl, hk, hB⟩;have hne : ¬ w.heap.size + 1 + 1 + 1 = w2.heap.size := by have := HLR.o; omega
   have HK := jQ hk;have KR := jQ (hB.bk S3.o.kR hne);have HB := jQ (S2.o.b.trans (((Below.refl w2.heap.size w2).alloc (Nat.le_refl _) _).trans (hB.below (fun k hk => by omega) (by simp)) |>.mono S2.o.b.size));clear hk hB hne;go_wp2_with (first | (refine wpList_load_row rfl 48 (.tmp 9) rfl w2.heap.size rfl 48 _ (0, 0) _ HK.o Tryz.underlying48 rfl (by kernel_rfl) ?_) | (refine wpList_store_row rfl 48 (.tmp 6) (.tmp 26) rfl (w.heap.size + 1 + 1 + 1) _ rfl rfl 48 _ KR.o (by kernel_rfl) rfl (by kernel_rfl) ?_));exact bodyPost_ret (y08 rfl _ _ (w.heap.size + 1 + 1 + 1) 48 _ (0, 0) _ (.int .i64 re) rfl rfl (KR.o.row _) Tryz.underlying48 rfl (by kernel_rfl)) rfl ⟨rfl, Below.rowNew HB.o (by omega) _⟩
  have h10 : (10 : UInt8) ∈ s := of_decide_eq_true HE10.o;rw [if_pos h10];clear h10 HE10 B3';go_enter Tryz.func42, Tryz.ntmps42;go_wp2_with fail;refine (B0.o _ S0.o).mono ?_;rintro ee w1 ⟨rfl, hb1⟩;have S1 := jQ (S0.o.next hb1);clear hb1 c0 c1 c2 c3;have y0 := (S1.o.kY.cell 0).trans rfl;go_wp2_with fail;refine (B1.o _).mono ?_;rintro ee w2 ⟨rfl, hb2⟩;have S2 := jQ (S1.o.next hb2);clear hb2 y0;have y1 := (S2.o.kS.cell 0).trans rfl;obtain ⟨m, hm⟩ := S2.o.env.mx;go_wp2_with fail;refine (B2.o _ S2.o m hm).mono ?_;rintro ee w3 ⟨rfl, hw3⟩;rw [hw3];clear hm y1 hw3;go_wp2_with (refine wpList_store_row rfl 48 (.tmp 6) (.tmp 23) rfl (w.heap.size + 1 + 1 + 1) _ rfl rfl 48 _ S2.o.kR (by kernel_rfl) rfl (by kernel_rfl) ?_);exact bodyPost_ret (y08 rfl _ _ (w.heap.size + 1 + 1 + 1) 48 _ (0, 0) _ (.int .i64 4) rfl rfl (S2.o.kR.row _) Tryz.underlying48 rfl (by kernel_rfl)) rfl ⟨rfl, Below.rowNew S2.o.b (by omega) _⟩
 rw [if_pos he];have he1 : (ef != 0) = true := by simp [he]
 clear he B3 B1 B2;go_enter Tryz.func42, Tryz.ntmps42;go_wp2_with fail;refine (B0.o _ S0.o).mono ?_;rintro ee w1 ⟨rfl, hb1⟩;have S1 := jQ (S0.o.next hb1);clear hb1 c0 c1 c2 c3;go_wp2_with (refine wpList_store_row rfl 48 (.tmp 6) (.tmp 15) rfl (w.heap.size + 1 + 1 + 1) _ rfl rfl 48 _ S1.o.kR (by kernel_rfl) rfl (by kernel_rfl) ?_);exact bodyPost_ret (y08 rfl _ _ (w.heap.size + 1 + 1 + 1) 48 _ (0, 0) _ (.int .i64 ef) rfl rfl (S1.o.kR.row _) Tryz.underlying48 rfl (by kernel_rfl)) rfl ⟨rfl, Below.rowNew S1.o.b (by omega) _⟩
end

section
theorem y45 {P : Program} {f : FuncId} {fn : Func} {s : ChangeSpec} {c : OpenClaim} (k1 : (c.wf (OpenSpec.ofChange s)) = true) (k2 : (laidOutB P) = true) (k3 : (mapsRowed P) = true) (k4 : (fn.params.all (P.readableRec ·)) = true) (k5 : (namedTie P c.named s.vars) = true) (k6 : ((c.stops == [])) = true) (k7 : ((P.stops == [])) = true) (k8 : ((c.knobs == [])) = true) (k9 : ((P.stopKnobs == [])) = true) (k10 : ((c.inPlace == P.inPlace f)) = true) (k11 : ((c.unfollowed == P.unfollowed f)) = true) (k12 : ((c.recurses == P.recurses f)) = true) (k13 : ((c.named == P.varsNamed f)) = true) (k14 : ((c.maps == (fn.params.toList ++ s.plain.varTypes P).any (P.mapsRec ·))) = true) (k15 : ((c.ifaces == (fn.params.toList ++ s.plain.varTypes P).any (P.ifacesRec ·))) = true) (k16 : ((c.mapsOut == P.mapsAmong fn.resultTypes.toList)) = true) (k17 : ((c.loops == (fn.params.toList ++ s.plain.varTypes P).any (P.loopsFrom ·))) = true) (k17b : ((c.wideKeys == (fn.params.toList ++ s.plain.varTypes P ++ fn.resultTypes.toList).any (P.wideKeysFrom ·))) = true) (k18 : (s.vars.all (P.varReadable ·)) = true) (k19 : (fn.resultTypes.all (fun t => P.readableRec t && decide (t < P.types.size))) = true) (k20 : ((c.ifacesOut == fn.resultTypes.toList.any (P.ifacesRec ·))) = true) (k21 : ((c.loopsOut == fn.resultTypes.toList.any (P.loopsFrom ·))) = true) (k22 : ((c.plainKeys == P.plainKeys)) = true) (k23 : (c.shortTexts.isNone) = true) (k23b : (P.stopsHeard) = true) (k24 : (P.mayEnter) = true) (k24b : ((c.lifted == P.liftsFinal)) = true) (k24c : ((P.make == some c.make)) = true) (k25 : ((c.kinds == (if c.domain.isEmpty then [] else fn.params.toList.map fun t => match P.underlying t with | some (.int k) => some k | _ => none))) = true) (k26 : ((c.pinned == c.pinnedBy)) = true) (k27 : ((c.veiled == (fn.params.toList ++ s.plain.varTypes P ++ fn.resultTypes.toList).any (P.veiledRec ·))) = true) (k28 : (c.veiledFits P fn.params.toList (fn.params.toList ++ s.plain.varTypes P ++ fn.resultTypes.toList)) = true) : joinedFacts P f fn s c = true := by
 unfold joinedFacts;simp only [Bool.and_eq_true];exact ⟨⟨⟨⟨⟨⟨⟨⟨⟨⟨⟨⟨⟨⟨⟨⟨⟨⟨⟨⟨⟨⟨⟨⟨⟨⟨⟨⟨⟨⟨⟨k1, k2⟩, k3⟩, k4⟩, k5⟩, k6⟩, k7⟩, k8⟩, k9⟩, k10⟩, k11⟩, k12⟩, k13⟩, k14⟩, k15⟩, k16⟩, k17⟩, k17b⟩, k18⟩, k19⟩, k20⟩, k21⟩, k22⟩, k23⟩, k23b⟩, k24⟩, k24b⟩, k24c⟩, k25⟩, k26⟩, k27⟩, k28⟩
theorem yA2 : (laidOutB Tryz.prog) = true := by kernel_rfl
theorem yA3 : (mapsRowed Tryz.prog) = true := by kernel_rfl
theorem yA4 : ((Tryz.prog.stops == [])) = true := by kernel_rfl
theorem yA5 : ((Tryz.prog.stopKnobs == [])) = true := by kernel_rfl
theorem y77 : (Tryz.prog.stopsHeard) = true := by kernel_rfl
theorem y8h : (Tryz.prog.mayEnter) = true := by kernel_rfl
theorem y5s : true = Tryz.prog.looks [] := by kernel_rfl
end
end Go.Proofs.YtccikcpcfdjobaaGreatDoor
