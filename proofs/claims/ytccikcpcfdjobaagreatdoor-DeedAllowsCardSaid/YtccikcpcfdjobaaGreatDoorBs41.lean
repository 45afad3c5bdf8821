/-
  What the claim needs: contracts.
-/
import Derived.Test.YtccikcpcfdjobaaGreatDoorBs40
import Derived.Test.YtccikcpcfdjobaaGreatDoorBs39
set_option linter.unusedVariables false
set_option linter.unusedSimpArgs false
set_option maxHeartbeats 8000000
set_option maxRecDepth 100000
namespace Go.Proofs.YtccikcpcfdjobaaGreatDoor
section
open Go.RowKit
theorem yCk : (Tryz.prog.info? 226).map (fun i => (i.zero, i.size, i.bytes)) = some (some (.agg #[.string ⟨#[]⟩, .int .i64 0, .int .i64 0, .slice none 0 0]), 4, 56) := by kernel_rfl
theorem Dd.yD3 (l : List Dd.De) (ws : List Cs.Bs) : Dd.deedL l ws = match Dd.nameW ws with | none => (4, l) | some p => match Dd.nnW p.2 with | none => (4, l) | some q => match Dd.nnW q.2 with | none => (4, l) | some s => match Dd.endW s.2 with | none => (4, l) | some _ => if 60 <= l.length then (2, l) else if Dd.dated ⟨p.1, q.1, s.1, []⟩ = false then (1, l) else if p.1 ∈ l.map (·.name) then (6, l) else (0, l ++ [⟨p.1, q.1, s.1, []⟩]) := by
 rcases ws with _ | ⟨n, _ | ⟨y, _ | ⟨z, _ | ⟨u, r⟩⟩⟩⟩
 ·rfl
 ·rcases hn : Dd.nameF n <;> simp [Dd.deedL, Dd.nameW, Dd.nnW, hn]
 ·rcases hn : Dd.nameF n <;> rcases hy : Dd.nnF y <;> simp [Dd.deedL, Dd.nameW, Dd.nnW, hn, hy]
 ·rcases hn : Dd.nameF n <;> rcases hy : Dd.nnF y <;> rcases hz : Dd.nnF z <;> simp [Dd.deedL, Dd.nameW, Dd.nnW, Dd.endW, hn, hy, hz]
 rcases hn : Dd.nameF n <;> rcases hy : Dd.nnF y <;> rcases hz : Dd.nnF z <;> simp [Dd.deedL, Dd.nameW, Dd.nnW, Dd.endW, hn, hy, hz]
structure Rw (V : World) (b F B g : Nat) (v : Fv) (f : Dd.Fd) (ps : List Dp) (A : Option Addr) (c : Nat) (R : Nat -> Prop) (W : World) : Prop where
 q : Dq W F B g v f ps A c R
 env : Env W
 bt : But (fun k => k = b) V W
 fb : F <= b
 b9 : 9 <= b
 nb : ¬ R b
section
variable {V W W' : World} {b F B g : Nat} {v : Fv} {f : Dd.Fd} {ps : List Dp} {A : Option Addr} {c : Nat} {R : Nat -> Prop}
theorem Rw.next (h : Rw V b F B g v f ps A c R W) (hb : Below W.heap.size W W') : Rw V b F B g v f ps A c R W' :=
 ⟨h.q.keep (But.of hb (X := fun _ => False)) (fun k hk => hk.elim), h.env.step hb, h.bt.trans (But.of hb), h.fb, h.b9, h.nb⟩
theorem Rw.nextB (h : Rw V b F B g v f ps A c R W) (hb : But (fun k => k = b) W W') : Rw V b F B g v f ps A c R W' :=
 ⟨h.q.keep hb (fun k hk => by rw [show k = b from hk]; exact ⟨h.nb, h.fb⟩), h.env.but1 hb h.b9, h.bt.trans hb, h.fb, h.b9, h.nb⟩
end
theorem yAL {ws : List Cs.Bs} {n : Cs.Bs} {r : List Cs.Bs} {W : World} {b : Nat} (h : Dd.nameW ws = some (n, r)) (hz : Wz W b ws) : n.length <= 1000000 := by
 rcases ws with _ | ⟨x, r'⟩
 ·cases h
 rw [Dd.nameW] at h;split at h
 ·simp only [Option.some.injEq, Prod.mk.injEq] at h;rw [<- h.1];exact hz.hl x List.mem_cons_self
 cases h
theorem y6N (F B g b : Nat) (v : Fv) (f : Dd.Fd) (ps : List Dp) (A : Option Addr) (c : Nat) (R : Nat -> Prop) (ws : List Cs.Bs) (V : World) (hE : Env V) (hz : Wz V b (Dd.kDeed :: ws)) (hQ : Dq V F B g v f ps A c R) (hbR : ¬ R b) (hFb : F <= b) (h9 : 9 <= b) :
  Calls Tryz.prog 162 #[.pointer (some ⟨g, 0, none⟩), .pointer (some ⟨b, 0, none⟩)] V (Fs3 (Dd.deedL (ps.map (fun p : Dp => p.1)) ws) F B g b v f R V) := by
 obtain ⟨i0, hi0, hz0, hz1, hz2⟩ := info_parts yCk;have HM := jQ (Dd.yD3 (ps.map (fun p : Dp => p.1)) ws);have HZ := jQ hz;have S0 := jQ (show Rw V b F B g v f ps A c R V from ⟨hQ, hE, But.refl _ _, hFb, h9, hbR⟩);obtain ⟨RR, hRR⟩ := zE (Dd.deedL (ps.map (fun p : Dp => p.1)) ws);rw [hRR] at HM ⊢;have hll := hQ.l1;clear hz hQ hbR hRR hE hFb h9;go_enter Tryz.func162, Tryz.ntmps162;go_wp2_with fail;refine (y1e b Dd.kDeed (Dd.kDeed :: ws) _ HZ.o).mono ?_;intro e w0 he;obtain ⟨rfl, hb, hz'⟩ := he.some_ (show Dd.fixW Dd.kDeed (Dd.kDeed :: ws) = some ((), ws) by simp [Dd.fixW]);have S1 := jQ (S0.o.nextB hb);have HZ1 := jQ hz';clear he hb hz';simp only [uv];go_wp2_with fail;rcases hs : Dd.nameW ws with _ | ⟨x1, r1⟩
 ·have HX := jQ (show RR.1 = 4 by rw [HM.o, hs]);have HS := jQ hs;clear hs;refine (y04 b ws _ HZ1.o).mono ?_;intro e w1 he;obtain ⟨rfl, hb⟩ := he.none_ HS.o;clear he;go_wp2_with fail;exact ⟨rfl, Fs3.no HX.o (by decide) (S1.o.bt.trans hb)⟩
 have HNL := jQ (yAL hs HZ1.o);have HS := jQ hs;clear hs;refine (y04 b ws _ HZ1.o).mono ?_;intro e w1 he;obtain ⟨rfl, hb, hz'⟩ := he.some_ HS.o;have S2 := jQ (S1.o.nextB hb);have HZ2 := jQ hz';clear he hb hz';simp only [y06];go_wp2_with fail;rcases hs : Dd.nnW r1 with _ | ⟨x2, r2⟩
 ·have HX := jQ (show RR.1 = 4 by rw [HM.o, HS.o]; simp only []; rw [hs]);have HS2 := jQ hs;clear hs;refine (y0C b r1 _ S2.o.env HZ2.o).mono ?_;intro e w2 he;obtain ⟨rfl, hb⟩ := he.none_ HS2.o;clear he;go_wp2_with fail;exact ⟨rfl, Fs3.no HX.o (by decide) (S2.o.bt.trans hb)⟩
 have HS2 := jQ hs;clear hs;refine (y0C b r1 _ S2.o.env HZ2.o).mono ?_;intro e w2 he;obtain ⟨rfl, hb, hz'⟩ := he.some_ HS2.o;have S3 := jQ (S2.o.nextB hb);have HZ3 := jQ hz';clear he hb hz';simp only [zv];go_wp2_with fail;rcases hs : Dd.nnW r2 with _ | ⟨x3, r3⟩
 ·have HX := jQ (show RR.1 = 4 by rw [HM.o, HS.o]; simp only []; rw [HS2.o]; simp only []; rw [hs]);have HS3 := jQ hs;clear hs;refine (y0C b r2 _ S3.o.env HZ3.o).mono ?_;intro e w3 he;obtain ⟨rfl, hb⟩ := he.none_ HS3.o;clear he;go_wp2_with fail;exact ⟨rfl, Fs3.no HX.o (by decide) (S3.o.bt.trans hb)⟩
 have HS3 := jQ hs;clear hs;refine (y0C b r2 _ S3.o.env HZ3.o).mono ?_;intro e w3 he;obtain ⟨rfl, hb, hz'⟩ := he.some_ HS3.o;have hbl := hz'.lt;have hbn := (Below.refl w3.heap.size w3).alloc (Nat.le_refl _) (.cells #[.string ⟨x1.toArray⟩, .int .i64 x2, .int .i64 x3, .slice none 0 0] 226);have S4 := jQ ((S3.o.nextB hb).next hbn);have HZ4 := jQ (hz'.below hbn);have HK4 := jQ (Bk.new w3 226 #[.string ⟨x1.toArray⟩, .int .i64 x2, .int .i64 x3, .slice none 0 0]);have hnb : ¬ w3.heap.size = b := by omega
 clear he hb hz' hbl hbn;simp only [zv];go_wp2_with fail;rcases hs : Dd.endW r3 with _ | ⟨u, r4⟩
 ·have HX := jQ (show RR.1 = 4 by rw [HM.o, HS.o]; simp only []; rw [HS2.o]; simp only []; rw [HS3.o]; simp only []; rw [hs]);have HS4 := jQ hs;clear hs;refine (y0o b r3 _ HZ4.o).mono ?_;intro e w4 he;obtain ⟨rfl, hb⟩ := he.none_ HS4.o;clear he;go_wp2_with fail;exact ⟨rfl, Fs3.no HX.o (by decide) (S4.o.bt.trans hb)⟩
 have HX := jQ (show RR = if 60 <= (ps.map (fun p : Dp => p.1)).length then (2, (ps.map (fun p : Dp => p.1))) else if Dd.dated ⟨x1, x2, x3, []⟩ = false then (1, (ps.map (fun p : Dp => p.1))) else if x1 ∈ (ps.map (fun p : Dp => p.1)).map (·.name) then (6, (ps.map (fun p : Dp => p.1))) else (0, (ps.map (fun p : Dp => p.1)) ++ [⟨x1, x2, x3, []⟩]) by
  rw [HM.o, HS.o]; simp only []; rw [HS2.o]; simp only []; rw [HS3.o]; simp only []; rw [hs])
 have HS4 := jQ hs;clear hs;refine (y0o b r3 _ HZ4.o).mono ?_;intro e w4 he;obtain ⟨rfl, hb, _⟩ := he.some_ HS4.o;have S5 := jQ (S4.o.nextB hb);have hk5 := hb.bk HK4.o hnb;have HK5 := jQ hk5;clear he hb hk5;have c4 := (S5.o.q.k.cell 4).trans rfl;have hgl := S5.o.q.k.lt;simp only [uv];by_cases h60 : 60 <= ps.length
 ·have h60' : ps.length = 60 := by omega
  have HR2 := jQ (show RR.1 = 2 by rw [HX.o, if_pos (by simpa using h60)]);rw [h60'] at c4;clear h60 h60' hll;go_wp2_with fail;refine (y0U _ _).mono ?_;rintro e w5 ⟨rfl, hb5⟩;go_wp2_with fail;exact ⟨rfl, Fs3.no HR2.o (by decide) (S5.o.bt.trans (But.of hb5))⟩
 have hd60 : decide ((ps.length : Int) < 60) = true := decide_eq_true (by omega);have HX2 := jQ (show RR = if Dd.dated ⟨x1, x2, x3, []⟩ = false then (1, (ps.map (fun p : Dp => p.1))) else if x1 ∈ (ps.map (fun p : Dp => p.1)).map (·.name) then (6, (ps.map (fun p : Dp => p.1))) else (0, (ps.map (fun p : Dp => p.1)) ++ [⟨x1, x2, x3, []⟩]) by rw [HX.o, if_neg (by simpa using h60)]);have H60 := jQ h60;clear h60;go_wp2_with fail;refine (y0L _ _).mono ?_;rintro e w5 ⟨rfl, hb5⟩;have S6 := jQ (S5.o.next hb5);have hk6 := HK5.o.below hb5 HK5.o.lt;have HK6 := jQ hk6;clear hb5 c4 hgl hd60;have y0 := (hk6.cell 0).trans rfl;have y1 := (hk6.cell 1).trans rfl;have y2 := (hk6.cell 2).trans rfl;have y3 := (hk6.cell 3).trans rfl;have yl := hk6.lt;clear hk6;have ID := y75 ⟨x1, x2, x3, []⟩ none 0;simp only [y3E, List.length_nil] at ID;obtain ⟨D, hD⟩ := zE (Dd.dated ⟨x1, x2, x3, []⟩);rw [hD] at ID HX2;have HID := jQ ID;clear ID hD;go_wp2_with fail;refine (HID.o _).mono ?_;rintro e w6 ⟨rfl, hb6⟩;have S7 := jQ (S6.o.next hb6);have HK7 := jQ (HK6.o.below hb6 HK6.o.lt);clear hb6 y0 y1 y2 y3 yl;go_wp2_with fail;rcases D with _ | _
 ·have HR2 := jQ (show RR.1 = 1 by rw [HX2.o, if_pos rfl]);refine (y0U _ _).mono ?_;rintro e w7 ⟨rfl, hb7⟩;go_wp2_with fail;exact ⟨rfl, Fs3.no HR2.o (by decide) (S7.o.bt.trans (But.of hb7))⟩
 have HX3 := jQ (show RR = if x1 ∈ (ps.map (fun p : Dp => p.1)).map (·.name) then (6, (ps.map (fun p : Dp => p.1))) else (0, (ps.map (fun p : Dp => p.1)) ++ [⟨x1, x2, x3, []⟩]) by rw [HX2.o, if_neg (by simp)]);refine (y0L _ _).mono ?_;rintro e w7 ⟨rfl, hb7⟩;have S8 := jQ (S7.o.next hb7);have HK8 := jQ (HK7.o.below hb7 HK7.o.lt);clear hb7;go_upto_region 5 with fail;have S9 := jQ (S8.o.next (Below.refl _ _).drew);have HK9 := jQ (HK8.o.below (Below.refl w7.heap.size w7).drew HK8.o.lt);obtain ⟨z, hz⟩ := zE (Dd.idx (ps.map (fun p : Dp => p.1.name)) x1);have hz' : Dd.idx ((ps.map (fun p : Dp => p.1)).map (·.name)) x1 = z := by rw [List.map_map]; exact hz
 have hzn := @Dd.y4y ((ps.map (fun p : Dp => p.1)).map (·.name)) x1;rw [hz'] at hzn;have HZN := jQ hzn;have hnm := fun w (h : DeRd w w.heap.size A ps) => yAJ A c ps x1 w h.l (by omega);rw [hz] at hnm;have HNM := jQ hnm;clear hz hz' hzn hnm;refine wp_region_held_drew (S := fun V : World => V.cell? ⟨g, 4, none⟩ = some (.slice A ps.length c) /\ V.cell? ⟨w3.heap.size, 0, none⟩ = some (.string ⟨x1.toArray⟩)) (by kernel_rfl) ⟨(S9.o.q.k.cell 4).trans rfl, (HK9.o.cell 0).trans rfl⟩ (fun hHeld => ?_);simp only [List.size_toArray, List.length_cons, List.length_nil, Nat.reduceAdd, Array.replicate_succ, Array.replicate_zero, List.push_toArray, List.append_toArray, List.nil_append, List.cons_append];refine wpAnyH_take (i := 0) (v := ?_) rfl (by kernel_rfl) (by kernel_rfl) (by kernel_rfl) (fun _ _ _ h => h) (Or.inl ⟨by rfl, ?_⟩) (by assumption) ?_;rotate_left
 ·(intro w hSw; obtain ⟨h1, h2⟩ := hSw; go_simp <;> with_reducible rfl)
 (try simp only [Act.put, zC, zB])
 refine wpAnyH_take (i := 1) (v := ?_) rfl (by kernel_rfl) (by kernel_rfl) (by kernel_rfl) (fun _ _ _ h => h) (Or.inl ⟨by rfl, ?_⟩) (by assumption) ?_;rotate_left
 ·(intro w hSw; obtain ⟨h1, h2⟩ := hSw; go_simp <;> with_reducible rfl)
 (try simp only [Act.put, zC, zB])
 refine wpAnyH_take (i := 2) (v := ?_) rfl (by kernel_rfl) (by kernel_rfl) (by kernel_rfl) (fun _ _ _ h => h) (Or.inl ⟨by rfl, ?_⟩) (by assumption) ?_;rotate_left
 ·(intro w hSw; obtain ⟨h1, h2⟩ := hSw; go_simp <;> with_reducible rfl)
 (try simp only [Act.put, zC, zB])
 refine wpAnyH_take (i := 3) (v := ?_) rfl (by kernel_rfl) (by kernel_rfl) (by kernel_rfl) (fun _ _ _ h => h) (Or.inl ⟨by rfl, ?_⟩) (by assumption) ?_;rotate_left
 ·(intro w hSw; obtain ⟨h1, h2⟩ := hSw; go_simp <;> with_reducible rfl)
 (try simp only [Act.put, zC, zB])
 refine wpAnyH_take (i := 4) (v := ?_) rfl (by kernel_rfl) (by kernel_rfl) (by kernel_rfl) (fun _ _ _ h => h) (Or.inl ⟨by rfl, ?_⟩) (by assumption) ?_;rotate_left
 ·(intro w hSw; obtain ⟨h1, h2⟩ := hSw; go_simp <;> with_reducible rfl)
 (try simp only [Act.put, zC, zB])
 refine wpAnyH_take (i := 5) (v := ?_) rfl (by kernel_rfl) (by kernel_rfl) (by kernel_rfl) (fun _ _ _ h => h) (Or.inl ⟨by rfl, ?_⟩) (by assumption) ?_;rotate_left
 ·(intro w hSw; obtain ⟨h1, h2⟩ := hSw; go_simp <;> with_reducible rfl)
 (try simp only [Act.put, zC, zB])
 refine wpAnyH_ready (rs := [6]) (by kernel_rfl) (by simp) ?_;refine zA rfl fun K hK => ?_;go_simp
 go_at_call 206
 refine (HNM.o _ (Dq.rd S9.o.q).1).mono ?_;rintro e w10 ⟨rfl, hb10⟩;have S10 := jQ (S9.o.next hb10);have HK10 := jQ (HK9.o.below hb10 HK9.o.lt);have HB10 := jQ hb10;clear hb10
 (try go_wp2_with fail)
 refine hK.out _ _ ⟨(S10.o.q.k.cell 4).trans rfl, (HK10.o.cell 0).trans rfl⟩ (fun hHeld => ?_);clear hK K
 (try simp only [Act.put, zC, zB])
 refine wpAnyH_take (i := 7) (v := ?_) rfl (by kernel_rfl) (by kernel_rfl) (by kernel_rfl) (fun _ _ _ h => h) (Or.inl ⟨by rfl, ?_⟩) (by assumption) ?_;rotate_left
 ·(intro w hSw; obtain ⟨h1, h2⟩ := hSw; go_simp <;> with_reducible rfl)
 (try simp only [Act.put, zC, zB])
 refine wpAnyH_ready (rs := [8]) (by kernel_rfl) (by simp) ?_;refine zA rfl fun K hK => ?_;go_simp;by_cases hneg : z < 0
 ·have hx := jQ (HZN.o.1 hneg);rw [decide_eq_true hneg]
  go_at_call 151
  refine (y0L _ _).mono ?_;rintro e w11 ⟨rfl, hb11⟩;have S11 := jQ (S10.o.next hb11);have HK11 := jQ (HK10.o.below hb11 HK10.o.lt);clear hb11
  (try go_wp2_with fail)
  refine hK.out _ _ ⟨(S11.o.q.k.cell 4).trans rfl, (HK11.o.cell 0).trans rfl⟩ (fun hHeld => ?_);clear hK K
  (try simp only [Act.put, zC, zB])
  refine wpAnyH_done (by kernel_rfl) ?_ _;have HX4 := jQ (show RR = (0, (ps.map (fun p : Dp => p.1)) ++ [⟨x1, x2, x3, []⟩]) by rw [HX3.o, if_neg hx.o]);clear hneg hx;have ho := S11.o.q.o;have hlt := S11.o.q.k.lt;have hle := S11.o.q.le;have hgB := S11.o.q.gB;have hk := HK11.o;have y0 := (hk.cell 0).trans rfl;have y1 := (hk.cell 1).trans rfl;have y2 := (hk.cell 2).trans rfl;have y3 := (hk.cell 3).trans rfl;have yl := hk.lt;have c4 := (S11.o.q.k.cell 4).trans rfl;have hcw : ∀ o, (w11.alloc o).cell? ⟨g, 4, none⟩ = some (.slice A ps.length c) := fun o => (World.cell?_of_block (Below.heap_alloc _ _ _ hlt)).trans c4;have HKG := jQ S11.o.q.k;have HNG := jQ (show ¬ (Value.slice A ps.length c).ownBlock = some g from fun e => by have := y0E S11.o.q.o g e; omega);clear hk;simp only [y6T] at ho;go_upto_region 6 with fail
  go_region_law (refine step_append_lies _ (by rfl) _ _ _ (by rfl) B 226 i0 _ 4 56 Tryz.underlying74 hi0 hz0 hz1 hz2 rfl (by omega) (.slice A ps.length c) ps.length (dcells ps) (by rfl) ((ho.alloc _).drew) ⟨w11.heap.size, 0, none⟩ 1 1 [.string ⟨x1.toArray⟩, .int .i64 x2, .int .i64 x3, .slice none 0 0] (by rfl) (by rfl) (World.news_of_block (cs := #[.string ⟨x1.toArray⟩, .int .i64 x2, .int .i64 x3, .slice none 0 0]) (t := 226) (fr := (0, 0)) (World.alloc_heap_new w11 _)) (by simp [Value.oneCell']) (by omega) (by unfold maxLen; omega) (by omega) (by simp; omega) (w11.heap.size + 1) (by simp) ?_; intro gn cn w12 hown hgrow hat hlt12; have hk4 := (But.grown hgrow).bk (Bk.below (HKG.o.alloc (.cells #[.string ⟨x1.toArray⟩, .int .i64 x2, .int .i64 x3, .slice none 0 0] 226)) ((Below.refl _ _).drew) (HKG.o.alloc (.cells #[.string ⟨x1.toArray⟩, .int .i64 x2, .int .i64 x3, .slice none 0 0] 226)).lt) HNG.o; have q1 := (hk4.cell 4).trans rfl; have q2 := hk4.frozen 4; have q3 := hk4.lt)
  all_goals
   obtain ⟨R', h1, h2, h3⟩ := S11.o.q.more (d := ⟨x1, x2, x3, []⟩) rfl HNL.o (by have := H60.o; omega) (((Below.refl w11.heap.size w11).alloc (Nat.le_refl _) (.cells #[.string ⟨x1.toArray⟩, .int .i64 x2, .int .i64 x3, .slice none 0 0] 226)).drew) hown hgrow (by rcases hat with e | e; exact .inl e; exact .inr (by omega));have H1 := jQ h1;have H2 := jQ h2;have H3 := jQ h3;clear h1 h2 h3 hk4 hown hgrow hat hlt12;go_wp2_with fail
   go_end0
   have hb3 := S11.o.bt;refine ⟨(hb3.mono (fun k h => .inl h)).trans (H2.o.mono (fun k h => .inr h)), .inl ⟨by rw [HX4.o], rfl, _, _, _, R', by rw [HX4.o]; simp, H1.o, fun k hk => ?_⟩⟩;rcases H3.o k hk with e | e
   ·exact .inl e
   exact .inr (Nat.le_trans hb3.size e)
 have HR2 := jQ (show RR.1 = 6 by rw [HX3.o, if_pos (Decidable.not_not.1 (fun h => hneg (HZN.o.2 h)))]);rw [decide_eq_false hneg]
 go_at_call 151
 refine (y0U _ _).mono ?_;rintro e w11 ⟨rfl, hb11⟩;exact ⟨rfl, Fs3.no HR2.o (by decide) (S10.o.bt.trans (But.of hb11))⟩
end

section
open Go.RowKit
theorem Dd.y5i (f : Dd.Fd) : ∀ (l : List Cs.Bs) (s : List Dd.De) (k : Int), Dd.deedsL f s l k = Dd.linesG (Dd.stepL f) s l k := by
 intro l
 induction l with
 | nil => intro s k; rfl
 | cons t r ih => intro s k; rw [Dd.deedsL, Dd.linesG, ih, ih]
theorem Dd.y66 (f : Dd.Fd) (src : Cs.Bs) : Dd.parseD f src = if Dd.fieldE f ≠ 0 then ([], (Dd.fieldE f, 0)) else if (Dd.sourceG (Dd.stepL f) [] src).1 = (0, 0) then ((Dd.sourceG (Dd.stepL f) [] src).2, (0, 0)) else ([], (Dd.sourceG (Dd.stepL f) [] src).1) := by
 unfold Dd.parseD Dd.sourceG;by_cases h0 : Dd.fieldE f ≠ 0
 ·rw [if_pos h0, if_pos h0]
 rw [if_neg h0, if_neg h0];by_cases h : 20000 < src.length
 ·rw [if_pos h, if_pos h, if_neg (by decide)]
 rw [if_neg h, if_neg h, Dd.y5i]
theorem yAZ (F B g b : Nat) (v : Fv) (f : Dd.Fd) (ps : List Dp) (A : Option Addr) (c : Nat) (R : Nat -> Prop) (ws : List Cs.Bs) (hw : ws ≠ []) (V : World) (hE : Env V) (hz : Wz V b ws) (hQ : Dq V F B g v f ps A c R) (hbR : ¬ R b) (hFb : F <= b) (h9 : 9 <= b) (h0 : Dd.fieldE f = 0) :
  Calls Tryz.prog 105 #[.pointer (some ⟨g, 0, none⟩), .pointer (some ⟨b, 0, none⟩)] V (Fs3 (Dd.stepL f (ps.map (fun p : Dp => p.1)) ws) F B g b v f R V) := by
 obtain ⟨k, r, rfl⟩ : ∃ k r, ws = k :: r := by
  cases ws with
  | nil => exact absurd rfl hw
  | cons k r => exact ⟨k, r, rfl⟩
 obtain ⟨A1, c1, kb, rb, _⟩ := hz.ex;obtain ⟨b1, o1, rfl, hb1, hc1⟩ := rb.2 (by simp);have hlb := kb.lt;have e0 := (kb.cell 0).trans rfl;have e1 : V.cell? ⟨b1, o1, none⟩ = some (.string ⟨k.toArray⟩) := by
  have := hc1 0 (by simp);simpa [wcells, sv] using this
 have hb1l : b1 < V.heap.size := by omega
 have hll : (k :: r).length = r.length + 1 := rfl;rw [hll] at e0;have hstep : Dd.stepL f (ps.map (fun p : Dp => p.1)) (k :: r) = if k = Dd.kDeed then Dd.deedL (ps.map (fun p : Dp => p.1)) r else Dd.moreL f (ps.map (fun p : Dp => p.1)) (k :: r) := rfl
 have hpos : (0 : Int) < (r.length : Int) + 1 := by omega
 by_cases hk : k = Dd.kDeed
 ·subst hk;rw [hstep, if_pos rfl];have RD := jQ (y6N F B g b v f ps A c R r V hE hz hQ hbR hFb h9);rw [show (⟨Dd.kDeed.toArray⟩ : ByteArray) = ⟨#[100, 101, 101, 100]⟩ from rfl] at e1;clear hE hz hQ hbR hFb h9 h0 hc1 kb rb hw hll hstep;go_enter Tryz.func105, Tryz.ntmps105;go_wp2_with fail;refine RD.o.mono ?_;rintro e V' ⟨hbt, (⟨hr, rfl, hx⟩ | ⟨hr, rfl⟩)⟩
  ·have HX := jQ (And.intro hbt (And.intro hr hx));clear hbt hr hx;go_wp2_with fail
   go_end0
   exact ⟨HX.o.1, .inl ⟨HX.o.2.1, rfl, HX.o.2.2⟩⟩
  have HX := jQ (And.intro hbt hr);clear hbt hr;go_wp2_with fail;exact ⟨rfl, HX.o.1, .inr ⟨HX.o.2, rfl⟩⟩
 rw [hstep, if_neg hk];have RD := jQ (y5J F B g b v f ps A c R (k :: r) V hE hz hQ hbR hFb h9 h0);have hne : (k == [100, 101, 101, 100]) = false := beq_eq_false_iff_ne.2 hk;clear hE hz hQ hbR hFb h9 h0 hc1 kb rb hw hll hstep hk;go_enter Tryz.func105, Tryz.ntmps105;go_wp2_with fail;refine RD.o.mono ?_;rintro e V' ⟨hbt, (⟨hr, rfl, hx⟩ | ⟨hr, rfl⟩)⟩
 ·have HX := jQ (And.intro hbt (And.intro hr hx));clear hbt hr hx;go_wp2_with fail
  go_end0
  exact ⟨HX.o.1, .inl ⟨HX.o.2.1, rfl, HX.o.2.2⟩⟩
 have HX := jQ (And.intro hbt hr);clear hbt hr;go_wp2_with fail;exact ⟨rfl, HX.o.1, .inr ⟨HX.o.2, rfl⟩⟩
def Pqd (F B g : Nat) (v : Fv) (f : Dd.Fd) (_ : Nat) (s : List Dd.De) (R : Nat -> Prop) (V : World) : Prop := ∃ ps A c, ps.map (fun p : Dp => p.1) = s /\ Dq V F B g v f ps A c R
theorem y8T (F B g B0 : Nat) (v : Fv) (f : Dd.Fd) (h0 : Dd.fieldE f = 0) (hF : F <= B0) : Step 105 #[.pointer (some ⟨g, 0, none⟩)] #[] (Pqd F B g v f) (Dd.stepL f) B0 where
 ent := enters_of Tryz.func105 (by kernel_rfl) rfl
 keep := by
  rintro m s R V V' X ⟨ps, A, c, h1, h2⟩ hb hx;exact ⟨ps, A, c, h1, h2.keep hb (fun k hk => ⟨(hx k hk).1, Nat.le_trans hF (hx k hk).2⟩)⟩
 low := by
  rintro m s R V ⟨ps, A, c, h1, h2⟩ k hk;have := h2.low k hk;exact ⟨this.1.1, this.2⟩
 step := by
  rintro m s R V b ws hm ⟨ps, A, c, rfl, h2⟩ hz hw hbR hb hE;refine (yAZ F B g b v f ps A c R ws hw V hE hz h2 hbR (Nat.le_trans hF hb) hz.g9 h0).mono ?_;rintro e V' ⟨hbt, (⟨hr, rfl, ps', A', c', R', g1, g2, g3⟩ | ⟨hr, rfl⟩)⟩
  ·exact ⟨hbt, .inl ⟨hr, rfl, R', ⟨ps', A', c', g1, g2⟩, g3⟩⟩
  exact ⟨hbt, .inr ⟨hr, rfl⟩⟩
theorem yCB (n : Nat) (k : Cs.Bs) (h : ftab k = some n) : ∀ args w, (callFunc n args).run Tryz.prog w = .ok (.enter n args) w := by
 unfold ftab at h;split at h
 ·cases h; exact enters_of Tryz.func144 (by kernel_rfl) rfl
 split at h
 ·cases h; exact enters_of Tryz.func145 (by kernel_rfl) rfl
 split at h
 ·cases h; exact enters_of Tryz.func146 (by kernel_rfl) rfl
 split at h
 ·cases h; exact enters_of Tryz.func147 (by kernel_rfl) rfl
 cases h
theorem yCh (n : Nat) (k : Cs.Bs) (r : List Cs.Bs) (h : ftab k = some n) (B g m b : Nat) (f : Dd.Fd) (R : Nat -> Prop) (v : Fv) (V : World) (hm : m <= 1000000) (hE : Env V) (hz : Wz V b r) (hF : Fo V B g m f R v) (hbR : ¬ R b) (hbg : g < b) :
  Calls Tryz.prog n #[.pointer (some ⟨b, 0, none⟩), .pointer (some ⟨g, 0, none⟩)] V (Fs2 (Dd.lineF f (k :: r)) B g m b R V) := by
 have hd : Dd.lineF f (k :: r) = if k = Dd.kStation then Dd.stationL f r else if k = Dd.kLimit then Dd.limitL f r else if k = Dd.kParcel then Dd.parcelL f r else if k = Dd.kVariation then Dd.variationL f r else (4, f) := rfl
 rw [hd];unfold ftab at h;split at h
 ·rename_i e; cases h; rw [if_pos e]; exact y3T B g m b f R v r V hm hE hz hF hbR hbg
 split at h
 ·rename_i e1 e; cases h; rw [if_neg e1, if_pos e]; exact y5M B g m b f R v r V hm hz hF hbR hbg
 split at h
 ·rename_i e1 e2 e; cases h; rw [if_neg e1, if_neg e2, if_pos e]; exact y4F B g m b f R v r V hm hz hF hbR hbg
 split at h
 ·rename_i e1 e2 e3 e; cases h; rw [if_neg e1, if_neg e2, if_neg e3, if_pos e]; exact y2b B g m b f R v r V hm hE hz hF hbR hbg
 cases h
theorem y9o {f : Dd.Fd} {k : Cs.Bs} {r : List Cs.Bs} (h : ftab k = none) : Dd.lineF f (k :: r) = (4, f) := by
 unfold ftab at h;unfold Dd.lineF;split at h
 ·cases h
 split at h
 ·cases h
 split at h
 ·cases h
 split at h
 ·cases h
 simp [*]
structure Pi (B g gM mb m : Nat) (f : Dd.Fd) (R : Nat -> Prop) (V : World) : Prop where
 fo : ∃ v, Fo V B g m f R v
 kM : Bk V gM 118 #[.map (some mb)]
 mp : V.heap[mb]? = some (.map fes 4)
 hM : gM < B /\ mb < B /\ gM ≠ g /\ mb ≠ g
theorem Pi.rest {B g gM mb m : Nat} {f : Dd.Fd} {R : Nat -> Prop} {V : World} (h : Pi B g gM mb m f R V) (k : Nat) (hk : R k) : k = g ∨ B <= k := by
 obtain ⟨v, hF⟩ := h.fo;rcases (hF.hR k).1 hk with e | e | e | e | e
 ·exact .inl e
 ·exact .inr (y0E hF.o1 k e).1
 ·exact .inr (y0E hF.o2 k e).1
 ·exact .inr (y0E hF.o3 k e).1
 exact .inr (y0E hF.o4 k e).1
theorem y8Z (B g gM mb m b : Nat) (f : Dd.Fd) (R : Nat -> Prop) (ws : List Cs.Bs) (V : World) (hm : m <= 1000000) (hE : Env V) (h : Pi B g gM mb m f R V) (hz : Wz V b ws) (hbR : ¬ R b) (hB : B <= b) :
  Calls Tryz.prog 96 #[.pointer (some ⟨b, 0, none⟩), .pointer (some ⟨gM, 0, none⟩), .pointer (some ⟨g, 0, none⟩)] V fun e V' =>
   But (fun k => k = b ∨ R k) V V' /\ (((Dd.lineF f ws).1 = 0 /\ e = .returned (.tuple #[]) /\ ∃ R', Pi B g gM mb (m + 1) (Dd.lineF f ws).2 R' V' /\ ∀ k, R' k -> R k ∨ V.heap.size <= k) ∨ ((Dd.lineF f ws).1 ≠ 0 /\ e = .panicked [pan (Dd.lineF f ws).1])) := by
 obtain ⟨v, hF⟩ := h.fo;have hM := h.hM;have hrest := h.rest;have c0 := (h.kM.cell 0).trans rfl;have h9 := hz.g9;have hgB := hF.gB;have hle := hF.le;have HR := jQ (y6y mb b ws V h.mp (by omega) hz);have HF := jQ hF;have HP := jQ h;have HE := jQ hE;have HRE := jQ hrest;have HBR := jQ hbR;clear h hF hz hE hrest hbR;go_enter Tryz.func96, Tryz.ntmps96;go_wp2_with fail;refine HR.o.mono ?_;intro e w1 he;rcases hs : tabW ftab ws with _ | ⟨n, r⟩
 ·have HW := jQ (show Dd.lineF f ws = (4, f) by
   rcases ws with _ | ⟨k, r⟩
   ·rfl
   exact y9o (by rcases hk : ftab k with _ | n; rfl; simp [tabW, hk] at hs))
  obtain ⟨rfl, hb⟩ := he.none_ hs;clear he hs;go_wp2_with fail;exact ⟨rfl, hb.mono (fun k h => .inl h), .inr ⟨by rw [HW.o]; exact (by decide : (4 : Int) ≠ 0), by rw [HW.o]⟩⟩
 obtain ⟨k, rfl, hk⟩ : ∃ k, ws = k :: r /\ ftab k = some n := by
  rcases ws with _ | ⟨k, r'⟩
  ·cases hs
  rcases hk : ftab k with _ | m
  ·simp [tabW, hk] at hs
  simp [tabW, hk] at hs;obtain ⟨rfl, rfl⟩ := hs;exact ⟨k, rfl, hk⟩
 obtain ⟨rfl, hb, hz1⟩ := he.some_ hs;have hF1 := HF.o.keep hb (fun k hk => by rw [show k = b from hk]; exact HBR.o);have HC := jQ (yCh n k r hk B g m b f R v w1 hm (HE.o.but1 hb h9) hz1 hF1 HBR.o (by omega));have hent := yCB n k hk;have HB := jQ hb;clear he hb hz1 hF1 hs hk;simp only [fnv];go_wp2_with fail;refine HC.o.mono ?_;rintro e w2 ⟨hb2, (⟨h1, rfl, R', v', hF', hR'⟩ | ⟨h1, rfl⟩)⟩
 ·have hbb : But (fun k => k = b ∨ R k) V w2 := (HB.o.mono (fun k h => .inl h)).trans hb2;have hnot : ∀ x, x < B -> x ≠ g -> ¬ (x = b ∨ R x) := fun x hx hg hor => by
   rcases hor with e | e
   ·omega
   rcases HRE.o x e with e | e <;> omega
  have hmz : mb < V.heap.size := by omega
  have HFIN := jQ (show But (fun k => k = b ∨ R k) V w2 /\ ∃ R', Pi B g gM mb (m + 1) (Dd.lineF f (k :: r)).2 R' w2 /\ ∀ k, R' k -> R k ∨ V.heap.size <= k from
   ⟨hbb, R', ⟨⟨v', hF'⟩, hbb.bk HP.o.kM (hnot _ hM.1 hM.2.2.1), (hbb.block mb hmz (hnot _ hM.2.1 hM.2.2.2)).trans HP.o.mp, hM⟩, fun k hk => by
    rcases hR' k hk with e | e
    ·exact .inl e
    exact .inr (Nat.le_trans HB.o.size e)⟩)
  have H1 := jQ h1;clear hb2 hF' hR' hbb hnot h1;go_wp2_with fail
  go_end0
  exact ⟨HFIN.o.1, .inl ⟨H1.o, rfl, HFIN.o.2⟩⟩
 have hbb : But (fun k => k = b ∨ R k) V w2 := (HB.o.mono (fun k h => .inl h)).trans hb2;have HBB := jQ hbb;have H1 := jQ h1;clear hb2 hbb h1;go_wp2_with fail;exact ⟨rfl, HBB.o, .inr ⟨H1.o, rfl⟩⟩
theorem y8a (B g gM mb : Nat) : Step 96 #[] #[.pointer (some ⟨gM, 0, none⟩), .pointer (some ⟨g, 0, none⟩)] (fun m f R V => Pi B g gM mb m f R V) Dd.lineF B where
 ent := enters_of Tryz.func96 (by kernel_rfl) rfl
 keep := fun m s R V V' X h hb hx => by
  obtain ⟨v, hF⟩ := h.fo;have hn : ∀ k, k < B -> ¬ X k := fun k hk e => by have := (hx k e).2; omega
  exact ⟨⟨v, hF.keep hb (fun k hk => (hx k hk).1)⟩, hb.bk h.kM (hn _ h.hM.1), (hb.block mb (by have := hF.le; have := h.hM; omega) (hn _ h.hM.2.1)).trans h.mp, h.hM⟩
 low := fun m s R V h k hk => by
  obtain ⟨v, hF⟩ := h.fo;exact hF.low k hk
 step := fun m s R V b ws hm h hz hne hbR hB hE => y8Z B g gM mb m b s R ws V hm hE h hz hbR hB
theorem y0y {P : Program} {fn : Func} {p q : Tmp} {ty ty2 : TypeId} (h : fn.results = #[.cell p ty, .cell q ty2]) (tmps : Array Value) (w : World) (g g2 : Nat) (t t2 : TypeId) (cs cs2 : Array Value) (fr fr2 : Nat × Nat) (d d2 : TypeDesc)
  (hp : tmps.getD p undef = .pointer (some ⟨g, 0, none⟩)) (hq : tmps.getD q undef = .pointer (some ⟨g2, 0, none⟩)) (hg : w.heap[g]? = some (.cells cs t fr)) (hg2 : w.heap[g2]? = some (.cells cs2 t2 fr2))
  (hu : P.underlying ty = some d) (hd : (match d with | .struct _ | .array _ _ => true | _ => false) = true) (hi : (P.info? ty).map (·.size) = some cs.size)
  (hu2 : P.underlying ty2 = some d2) (hd2 : (match d2 with | .struct _ | .array _ _ => true | _ => false) = true) (hi2 : (P.info? ty2).map (·.size) = some cs2.size) :
  (results fn tmps).run P w = .ok (.tuple #[.agg cs, .agg cs2]) w := by
 have hp' : tmps[p]?.getD undef = .pointer (some ⟨g, 0, none⟩) := by simpa using hp
 have hq' : tmps[q]?.getD undef = .pointer (some ⟨g2, 0, none⟩) := by simpa using hq
 simp [results, h, hp', hq', asAddr, run_loadVar_row w g t ty cs fr d hg hu hd hi, run_loadVar_row w g2 t2 ty2 cs2 fr2 d2 hg2 hu2 hd2 hi2, Result.andThen]
def zeroF : Array Value := #[.slice none 0 0, .slice none 0 0, .slice none 0 0, .slice none 0 0]
def v0 : Fv := ⟨none, 0, none, 0, none, 0, none, 0⟩
theorem frd0 (w : World) (B : Nat) : FRd w B v0 Dd.fd0 :=
 ⟨Rd.nil _ _ _ _, Rd.nil _ _ _ _, Rd.nil _ _ _ _, Rd.nil _ _ _ _, Nat.le_refl _, Nat.le_refl _, Nat.le_refl _, Nat.zero_le _, Nat.zero_le _, Nat.zero_le _, Nat.zero_le _, fun _ h => absurd h List.not_mem_nil, fun _ h => absurd h List.not_mem_nil, fun _ h => absurd h List.not_mem_nil⟩
theorem Dd.y67 (src : Cs.Bs) : Dd.parseF src = if (Dd.sourceG Dd.lineF Dd.fd0 src).1 = (0, 0) then (if Dd.fieldE (Dd.sourceG Dd.lineF Dd.fd0 src).2 = 0 then ((Dd.sourceG Dd.lineF Dd.fd0 src).2, (0, 0)) else (Dd.fd0, (Dd.fieldE (Dd.sourceG Dd.lineF Dd.fd0 src).2, 0))) else (Dd.fd0, (Dd.sourceG Dd.lineF Dd.fd0 src).1) := by
 unfold Dd.parseF Dd.sourceG;by_cases h : 20000 < src.length
 ·rw [if_pos h, if_pos h, if_neg (by decide)]
 rw [if_neg h, if_neg h, Dd.y6w]
theorem y3h (src : Cs.Bs) (hs : src.length <= 999999) (w : World) (hE : Env w) :
  Calls Tryz.prog 41 #[.string ⟨src.toArray⟩] w fun e w' => ∃ v, e = .returned (.tuple #[fval v (Dd.parseF src).1, .agg #[.int .i64 (Dd.parseF src).2.1, .int .i64 (Dd.parseF src).2.2]]) /\ FRd w' w'.heap.size v (Dd.parseF src).1 /\ Below w.heap.size w w' := by
 have hmf := zM;have hg9 := hE.gl;have hpf := Dd.y67 src
 -- the three blocks
 obtain ⟨w1, h1⟩ := zE (w.alloc (.cells zeroF 27));have z1 : w1.heap.size = w.heap.size + 1 := by rw [<- h1]; simp
 have k1 : Bk w1 w.heap.size 27 zeroF := by rw [<- h1]; exact Bk.new _ _ _
 have b1 : Below w.heap.size w w1 := by rw [<- h1]; exact (Below.refl _ _).alloc (Nat.le_refl _) _
 obtain ⟨w2, h2⟩ := zE (w1.alloc (.cells #[.int .i64 0, .int .i64 0] 70));have z2 : w2.heap.size = w.heap.size + 1 + 1 := by rw [<- h2]; simp [z1]
 have k2 : Bk w2 (w.heap.size + 1) 70 #[.int .i64 0, .int .i64 0] := by rw [<- h2, <- z1]; exact Bk.new _ _ _
 have b2 : Below w1.heap.size w1 w2 := by rw [<- h2]; exact (Below.refl _ _).alloc (Nat.le_refl _) _
 obtain ⟨w3, h3⟩ := zE (w2.alloc (.cells zeroF 27));have z3 : w3.heap.size = w.heap.size + 1 + 1 + 1 := by rw [<- h3]; simp [z2]
 have k3 : Bk w3 (w.heap.size + 1 + 1) 27 zeroF := by rw [<- h3, <- z2]; exact Bk.new _ _ _
 have b3 : Below w2.heap.size w2 w3 := by rw [<- h3]; exact (Below.refl _ _).alloc (Nat.le_refl _) _
 have hB3 := (b1.trans (b2.mono (by omega))).trans (b3.mono (by omega));have kA := (k1.below b2 (by omega)).below b3 (by omega);have kB := k2.below b3 (by omega);have hE3 := hE.step hB3;have hw3 : ((w.alloc (.cells zeroF 27)).alloc (.cells #[.int .i64 0, .int .i64 0] 70)).alloc (.cells zeroF 27) = w3 := by rw [h1, h2, h3]
 simp only [zeroF] at hw3;have HW3 := jQ hw3;have HB3 := jQ hB3;have KA := jQ kA;have KB := jQ kB;have KC := jQ k3;have HE3 := jQ hE3;have HPF := jQ hpf;have HZ3 := jQ z3;clear h1 h2 h3 z1 z2 z3 k1 k2 k3 b1 b2 b3 hB3 kA kB hE3 hw3 hpf hE w1 w2;go_enter Tryz.func41, Tryz.ntmps41;go_wp2_with fail;rw [HW3.o];refine (y43 _).mono ?_;rintro e w4 ⟨mb, hmb, rfl, hmap, hb4⟩;have hb5 := (Below.refl w4.heap.size w4).alloc (Nat.le_refl _) (.cells #[.map (some mb)] 118);have kM := Bk.new w4 118 #[.map (some mb)];have hsz5 : (w4.alloc (.cells #[.map (some mb)] 118)).heap.size = w4.heap.size + 1 := by simp
 have hmlt := (Array.getElem?_eq_some_iff.1 hmap).1;have hs34 := hb4.size;have hz3 := HZ3.o;have hb45 := hb4.trans (hb5.mono hs34);obtain ⟨w5, hw5⟩ := zE (w4.alloc (.cells #[.map (some mb)] 118));rw [hw5] at hb5 kM hsz5 hb45;obtain ⟨g, hg⟩ := zE (w.heap.size + 1 + 1);obtain ⟨gM, hgM⟩ := zE (w4.heap.size);rw [hgM] at hsz5 kM;have hF0 : Fo w5 w5.heap.size g 0 Dd.fd0 (fun k => k = g) v0 :=
  ⟨by rw [<- hg]; exact KC.o.below hb45 KC.o.lt, World.ownsRow_nil _ _ _ _, World.ownsRow_nil _ _ _ _, World.ownsRow_nil _ _ _ _, World.ownsRow_nil _ _ _ _, fun k => by simp [sl, v0, Value.ownBlock], ⟨by omega, by omega⟩, Nat.le_refl _, Nat.le_refl _, Nat.le_refl _, Nat.le_refl _, Nat.le_refl _, fun _ h => absurd h List.not_mem_nil, fun _ h => absurd h List.not_mem_nil, fun _ h => absurd h List.not_mem_nil⟩
 have hP0 : Pi w5.heap.size g gM mb 0 Dd.fd0 (fun k => k = g) w5 := ⟨⟨v0, hF0⟩, kM, (hb5.block mb hmlt).trans hmap, by omega, by omega, by omega, by omega⟩;have HRL := jQ (y2K 96 #[] #[.pointer (some ⟨gM, 0, none⟩), .pointer (some ⟨g, 0, none⟩)] _ Dd.lineF Dd.fd0 (fun k => k = g) w5 (y8a w5.heap.size g gM mb) hP0 (HE3.o.step hb45) src hs);have HW5 := jQ hw5;have HB5 := jQ (HB3.o.trans (hb45.mono HB3.o.size));have KA5 := jQ (KA.o.below hb45 KA.o.lt);have KB5 := jQ (KB.o.below hb45 KB.o.lt);have HGG := jQ (And.intro hg (And.intro hgM hsz5));clear hb5 kM hsz5 hmlt hs34 hz3 hb45 hw5 hF0 hP0 hmap hb4 hmb KA KB KC HB3 HE3 HZ3;obtain ⟨S, hS⟩ := zE (Dd.sourceG Dd.lineF Dd.fd0 src);rw [hS] at HRL HPF;obtain ⟨⟨q1, q2⟩, f⟩ := S;dsimp only at HRL HPF;clear hS;go_wp2_with fail;rw [HW5.o];refine HRL.o.mono ?_;rintro e w6 ⟨rfl, hbut, hok⟩;have hlt5 := KB5.o.lt;have ka6 := hbut.bk KA5.o (show ¬ w.heap.size = g by have := HGG.o.1; omega);have kb6 := hbut.bk KB5.o (show ¬ w.heap.size + 1 = g by have := HGG.o.1; omega);have hb6 := But.back HB5.o hbut (fun k hk => by have h1 : k = g := hk; have := HGG.o.1; omega) HB5.o.size;have hb7 := (Below.refl w6.heap.size w6).alloc (Nat.le_refl _) (.cells #[.int .i64 q1, .int .i64 q2] 70);have ka7 := ka6.below hb7 ka6.lt;have kb7 := kb6.below hb7 kb6.lt;have kf7 := Bk.new w6 70 #[.int .i64 q1, .int .i64 q2];have HB7 := jQ (hb6.trans (hb7.mono hb6.size));have KA7 := jQ ka7;have KB7 := jQ kb7;have HOK := jQ hok;by_cases hq : (q1, q2) = ((0 : Int), (0 : Int))
 ·obtain ⟨rfl, rfl⟩ : q1 = 0 /\ q2 = 0 := by simpa using hq
  obtain ⟨R', m, hm, hpi, _⟩ := hok rfl;obtain ⟨v, hF⟩ := hpi.fo;have hF7 := hF.keep (X := fun _ => False) (But.of hb7) (fun k hk => hk.elim);have HRD := jQ (hF7.rd hm);have HF7 := jQ hF7;have HRST := jQ hpi.rest;have HSZ := jQ HB5.o.size;have hsz5 := KB5.o.lt;have HM := jQ hm;have KG := jQ hF7.k;have HPE := jQ (show Dd.parseF src = if Dd.fieldE f = 0 then (f, (0, 0)) else (Dd.fd0, (Dd.fieldE f, 0)) by rw [HPF.o, if_pos rfl]);obtain ⟨ef, hef⟩ := zE (Dd.fieldE f);have B0 := jQ (y0Y v f _ HRD.o);rw [hef] at B0 HPE;simp only [y01] at B0;have f0 := (kf7.cell 0).trans rfl;have f1 := (kf7.cell 1).trans rfl;clear hok hq hpi hF hF7 hef ka6 kb6 hb6 hb7 ka7 kb7 kf7 hlt5 hbut HRL KA5 KB5 HB5 HPF;go_wp2_with (refine wpList_load_row rfl 27 (.tmp 4) rfl g rfl 27 _ (0, 0) _ KG.o Tryz.underlying27 rfl (by kernel_rfl) ?_);refine B0.o.mono ?_;rintro e w8 ⟨rfl, hb8⟩;have ka8 := KA7.o.below hb8 KA7.o.lt;have kb8 := KB7.o.below hb8 KB7.o.lt;have kg8 := KG.o.below hb8 KG.o.lt;have hF8 := HF7.o.keep (X := fun _ => False) (But.of hb8) (fun k hk => hk.elim);have KA8 := jQ ka8;have KB8 := jQ kb8;have KG8 := jQ kg8;have HF8 := jQ hF8;have HB8 := jQ (HB7.o.trans (hb8.mono HB7.o.size));clear ka8 kb8 kg8 hF8 hb8 f0 f1;by_cases he : ef = 0
  ·subst he;have HP2 := jQ (HPE.o.trans (if_pos rfl));go_wp2_with (first | (refine wpList_load_row rfl 27 (.tmp 4) rfl g rfl 27 _ (0, 0) _ KG8.o Tryz.underlying27 rfl (by kernel_rfl) ?_) | (refine wpList_store_row rfl 27 (.tmp 2) (.tmp 24) rfl w.heap.size _ rfl rfl 27 _ KA8.o (by kernel_rfl) rfl (by kernel_rfl) ?_) | (refine wpList_store_row rfl 70 (.tmp 3) (.tmp 25) rfl (w.heap.size + 1) _ rfl rfl 70 _ (KB8.o.row_far (Nat.succ_ne_self _) _) (by kernel_rfl) rfl (by kernel_rfl) ?_));have hA := (KA8.o.row #[.slice v.a1 f.st.length v.c1, .slice v.a2 f.li.length v.c2, .slice v.a3 f.pa.length v.c3, .slice v.a4 f.va.length v.c4]).row_far (show w.heap.size ≠ w.heap.size + 1 by omega) #[.int .i64 0, .int .i64 0];have hB := (KB8.o.row_far (show w.heap.size + 1 ≠ w.heap.size by omega) #[.slice v.a1 f.st.length v.c1, .slice v.a2 f.li.length v.c2, .slice v.a3 f.pa.length v.c3, .slice v.a4 f.va.length v.c4]).row #[.int .i64 0, .int .i64 0];refine bodyPost_ret (y0y rfl _ _ w.heap.size (w.heap.size + 1) 27 70 _ _ (0, 0) (0, 0) _ _ rfl rfl hA hB Tryz.underlying27 rfl (by kernel_rfl) Tryz.underlying70 rfl (by kernel_rfl)) rfl ?_;rw [HP2.o];have hb2 := But.row (X := fun k => k = w.heap.size ∨ k = w.heap.size + 1) (But.row (X := fun k => k = w.heap.size ∨ k = w.heap.size + 1) (But.refl _ w8) (.inl rfl) #[.slice v.a1 f.st.length v.c1, .slice v.a2 f.li.length v.c2, .slice v.a3 f.pa.length v.c3, .slice v.a4 f.va.length v.c4]) (.inr rfl) #[.int .i64 0, .int .i64 0];refine ⟨v, rfl, (HF8.o.keep hb2 (fun k hk hr => ?_)).rd HM.o, Below.rowNew (Below.rowNew HB8.o (Nat.le_refl _) _) (by omega) _⟩;have h1 := HGG.o.1;rcases HRST.o k hr with e | e <;> rcases hk with e2 | e2 <;> omega
  have HP2 := jQ (HPE.o.trans (if_neg he));have g5 : (ef != 0) = true := by simpa using he
  clear he;go_wp2_with (first | (refine wpList_store_row rfl 27 (.tmp 2) (.tmp 21) rfl w.heap.size _ rfl rfl 27 _ KA8.o (by kernel_rfl) rfl (by kernel_rfl) ?_) | (refine wpList_store_row rfl 70 (.tmp 3) (.tmp 23) rfl (w.heap.size + 1) _ rfl rfl 70 _ (KB8.o.row_far (Nat.succ_ne_self _) _) (by kernel_rfl) rfl (by kernel_rfl) ?_));have hA := (KA8.o.row zeroF).row_far (show w.heap.size ≠ w.heap.size + 1 by omega) #[.int .i64 ef, .int .i64 0];have hB := (KB8.o.row_far (show w.heap.size + 1 ≠ w.heap.size by omega) zeroF).row #[.int .i64 ef, .int .i64 0];refine bodyPost_ret (y0y rfl _ _ w.heap.size (w.heap.size + 1) 27 70 _ _ (0, 0) (0, 0) _ _ rfl rfl hA hB Tryz.underlying27 rfl (by kernel_rfl) Tryz.underlying70 rfl (by kernel_rfl)) rfl ?_;rw [HP2.o];exact ⟨v0, rfl, frd0 _ _, Below.rowNew (Below.rowNew HB8.o (Nat.le_refl _) _) (by omega) _⟩
 have HP2 := jQ (show Dd.parseF src = (Dd.fd0, (q1, q2)) by rw [HPF.o, if_neg hq]);have f0 := (kf7.cell 0).trans rfl;have f1 := (kf7.cell 1).trans rfl;have HLT := jQ (show w.heap.size + 1 < w6.heap.size from kb6.lt);clear hok ka6 kb6 hb6 hb7 ka7 kb7 kf7 hlt5 hbut HRL KA5 KB5 HB5 HPF;by_cases h1 : q1 = 0
 ·have h2 : ¬ q2 = 0 := fun e => hq (by rw [h1, e]);subst h1;have g5 : (q2 == 0) = false := by simpa using h2
  clear hq h2;go_upto_region 5 with fail;have kfd : Bk (w6.alloc (.cells #[.int .i64 0, .int .i64 q2] 70)).drew w6.heap.size 70 #[.int .i64 0, .int .i64 q2] := Bk.new _ _ _;have KFD := jQ kfd;have hlt6 : w.heap.size + 1 < w6.heap.size := by have h1 := HLT.o; omega
  refine wp_region_held_drew (S := fun V : World => V.cell? ⟨w6.heap.size, 0, none⟩ = some (.int .i64 0) /\ V.cell? ⟨w6.heap.size, 1, none⟩ = some (.int .i64 q2)) (by kernel_rfl) ⟨(kfd.cell 0).trans rfl, (kfd.cell 1).trans rfl⟩ (fun hHeld => ?_);simp only [List.size_toArray, List.length_cons, List.length_nil, Nat.reduceAdd, Array.replicate_succ, Array.replicate_zero, List.push_toArray, List.append_toArray, List.nil_append, List.cons_append];refine wpAnyH_take (i := 0) (v := ?_) rfl (by kernel_rfl) (by kernel_rfl) (by kernel_rfl) (fun _ _ _ h => h) (Or.inl ⟨by rfl, ?_⟩) (by assumption) ?_;rotate_left
  ·(intro w hSw; obtain ⟨c0, c1⟩ := hSw; go_simp <;> with_reducible rfl)
  (try simp only [Act.put, zC, zB])
  refine wpAnyH_take (i := 1) (v := ?_) rfl (by kernel_rfl) (by kernel_rfl) (by kernel_rfl) (fun _ _ _ h => h) (Or.inl ⟨by rfl, ?_⟩) (by assumption) ?_;rotate_left
  ·(intro w hSw; obtain ⟨c0, c1⟩ := hSw; go_simp <;> with_reducible rfl)
  (try simp only [Act.put, zC, zB])
  refine wpAnyH_ready (rs := [2]) (by kernel_rfl) (by simp) ?_;refine zA rfl fun K hK => ?_;rw [if_pos (by rfl)];refine wp_store_row 27 (.tmp 2) (.tmp 15) rfl w.heap.size zeroF rfl rfl 27 _ KA7.o.drewB' (by kernel_rfl) rfl (by kernel_rfl) ?_;have kf8 := KFD.o.row_far (show w6.heap.size ≠ w.heap.size by omega) zeroF;refine hK.out _ _ ⟨(kf8.cell 0).trans rfl, (kf8.cell 1).trans rfl⟩ (fun hHeld => ?_);clear hK;refine wpAnyH_ready (rs := [3]) (by kernel_rfl) (by simp) ?_;refine zA rfl fun K hK => ?_;rw [if_pos (by rfl)];refine wp_store_row 70 (.tmp 3) (.tmp 16) rfl (w.heap.size + 1) #[.int .i64 0, .int .i64 q2] rfl rfl 70 _ (KB7.o.drewB'.row_far (Nat.succ_ne_self _) _) (by kernel_rfl) rfl (by kernel_rfl) ?_;have kf9 := kf8.row_far (show w6.heap.size ≠ w.heap.size + 1 by omega) #[.int .i64 0, .int .i64 q2];refine hK.out _ _ ⟨(kf9.cell 0).trans rfl, (kf9.cell 1).trans rfl⟩ (fun hHeld => ?_);clear hK kf8 kf9 kfd;refine wpAnyH_done (by kernel_rfl) ?_ _
  (try simp only [Act.put, zC, zB])
  have hA := (KA7.o.drewB'.row zeroF).row_far (show w.heap.size ≠ w.heap.size + 1 by omega) #[.int .i64 0, .int .i64 q2];have hB := (KB7.o.drewB'.row_far (show w.heap.size + 1 ≠ w.heap.size by omega) zeroF).row #[.int .i64 0, .int .i64 q2];have HA := jQ hA;have HBB := jQ hB;clear hA hB;go_wp2_with fail;refine bodyPost_ret (y0y rfl _ _ w.heap.size (w.heap.size + 1) 27 70 _ _ (0, 0) (0, 0) _ _ rfl rfl HA.o HBB.o Tryz.underlying27 rfl (by kernel_rfl) Tryz.underlying70 rfl (by kernel_rfl)) rfl ?_;rw [HP2.o];exact ⟨v0, rfl, frd0 _ _, Below.rowNew (Below.rowNew HB7.o.drew (Nat.le_refl _) _) (by omega) _⟩
 have g5 : (q1 == 0) = false := by simpa using h1
 clear hq h1;go_upto_region 5 with fail;have kfd : Bk (w6.alloc (.cells #[.int .i64 q1, .int .i64 q2] 70)).drew w6.heap.size 70 #[.int .i64 q1, .int .i64 q2] := Bk.new _ _ _;have KFD := jQ kfd;have hlt6 : w.heap.size + 1 < w6.heap.size := by have h1 := HLT.o; omega
 refine wp_region_held_drew (S := fun V : World => V.cell? ⟨w6.heap.size, 0, none⟩ = some (.int .i64 q1) /\ V.cell? ⟨w6.heap.size, 1, none⟩ = some (.int .i64 q2)) (by kernel_rfl) ⟨(kfd.cell 0).trans rfl, (kfd.cell 1).trans rfl⟩ (fun hHeld => ?_);simp only [List.size_toArray, List.length_cons, List.length_nil, Nat.reduceAdd, Array.replicate_succ, Array.replicate_zero, List.push_toArray, List.append_toArray, List.nil_append, List.cons_append];refine wpAnyH_take (i := 0) (v := ?_) rfl (by kernel_rfl) (by kernel_rfl) (by kernel_rfl) (fun _ _ _ h => h) (Or.inl ⟨by rfl, ?_⟩) (by assumption) ?_;rotate_left
 ·(intro w hSw; obtain ⟨c0, c1⟩ := hSw; go_simp <;> with_reducible rfl)
 (try simp only [Act.put, zC, zB])
 refine wpAnyH_take (i := 1) (v := ?_) rfl (by kernel_rfl) (by kernel_rfl) (by kernel_rfl) (fun _ _ _ h => h) (Or.inl ⟨by rfl, ?_⟩) (by assumption) ?_;rotate_left
 ·(intro w hSw; obtain ⟨c0, c1⟩ := hSw; go_simp <;> with_reducible rfl)
 (try simp only [Act.put, zC, zB])
 refine wpAnyH_ready (rs := [2]) (by kernel_rfl) (by simp) ?_;refine zA rfl fun K hK => ?_;rw [if_pos (by rfl)];refine wp_store_row 27 (.tmp 2) (.tmp 15) rfl w.heap.size zeroF rfl rfl 27 _ KA7.o.drewB' (by kernel_rfl) rfl (by kernel_rfl) ?_;have kf8 := KFD.o.row_far (show w6.heap.size ≠ w.heap.size by omega) zeroF;refine hK.out _ _ ⟨(kf8.cell 0).trans rfl, (kf8.cell 1).trans rfl⟩ (fun hHeld => ?_);clear hK;refine wpAnyH_ready (rs := [3]) (by kernel_rfl) (by simp) ?_;refine zA rfl fun K hK => ?_;rw [if_pos (by rfl)];refine wp_store_row 70 (.tmp 3) (.tmp 16) rfl (w.heap.size + 1) #[.int .i64 q1, .int .i64 q2] rfl rfl 70 _ (KB7.o.drewB'.row_far (Nat.succ_ne_self _) _) (by kernel_rfl) rfl (by kernel_rfl) ?_;have kf9 := kf8.row_far (show w6.heap.size ≠ w.heap.size + 1 by omega) #[.int .i64 q1, .int .i64 q2];refine hK.out _ _ ⟨(kf9.cell 0).trans rfl, (kf9.cell 1).trans rfl⟩ (fun hHeld => ?_);clear hK kf8 kf9 kfd;refine wpAnyH_done (by kernel_rfl) ?_ _
 (try simp only [Act.put, zC, zB])
 have hA := (KA7.o.drewB'.row zeroF).row_far (show w.heap.size ≠ w.heap.size + 1 by omega) #[.int .i64 q1, .int .i64 q2];have hB := (KB7.o.drewB'.row_far (show w.heap.size + 1 ≠ w.heap.size by omega) zeroF).row #[.int .i64 q1, .int .i64 q2];have HA := jQ hA;have HBB := jQ hB;clear hA hB;go_wp2_with fail;refine bodyPost_ret (y0y rfl _ _ w.heap.size (w.heap.size + 1) 27 70 _ _ (0, 0) (0, 0) _ _ rfl rfl HA.o HBB.o Tryz.underlying27 rfl (by kernel_rfl) Tryz.underlying70 rfl (by kernel_rfl)) rfl ?_;rw [HP2.o];exact ⟨v0, rfl, frd0 _ _, Below.rowNew (Below.rowNew HB7.o.drew (Nat.le_refl _) _) (by omega) _⟩
theorem y0m {P : Program} {fn : Func} {p q : Tmp} {ty : TypeId} (h : fn.results = #[.tmp p, .cell q ty]) (tmps : Array Value) (w : World) (u : Value) (g : Nat) (t : TypeId) (cs : Array Value) (fr : Nat × Nat) (d : TypeDesc)
  (hp : tmps.getD p undef = u) (hq : tmps.getD q undef = .pointer (some ⟨g, 0, none⟩)) (hg : w.heap[g]? = some (.cells cs t fr)) (hu : P.underlying ty = some d) (hd : (match d with | .struct _ | .array _ _ => true | _ => false) = true) (hi : (P.info? ty).map (·.size) = some cs.size) :
  (results fn tmps).run P w = .ok (.tuple #[u, .agg cs]) w := by
 have hp' : tmps[p]?.getD undef = u := by simpa using hp
 have hq' : tmps[q]?.getD undef = .pointer (some ⟨g, 0, none⟩) := by simpa using hq
 simp [results, h, hp', hq', asAddr, run_loadVar_row w g t ty cs fr d hg hu hd hi, Result.andThen]
def PdR (w : World) (r : List Dd.De × (Int × Int)) (e : Ending) (w' : World) : Prop :=
 ∃ A c ps, ps.map (fun p : Dp => p.1) = r.1 /\ e = .returned (.tuple #[.slice A ps.length c, .agg #[.int .i64 r.2.1, .int .i64 r.2.2]]) /\ DeRd w' w'.heap.size A ps /\ ps.length <= c /\ (ps.length <= 60 /\ ∀ p ∈ ps, p.1.calls.length <= 20 /\ p.1.name.length <= 1000000) /\ Below w.heap.size w w'
theorem PdR.none_ {w w' : World} {r : List Dd.De × (Int × Int)} {a b : Int} (h : r = ([], (a, b))) (hb : Below w.heap.size w w') : PdR w r (.returned (.tuple #[.slice none 0 0, .agg #[.int .i64 a, .int .i64 b]])) w' := by
 subst h;exact ⟨none, 0, [], rfl, rfl, ⟨Rd.nil _ _ _ _, fun p hp => absurd hp List.not_mem_nil⟩, Nat.le_refl _, ⟨Nat.zero_le _, fun p hp => absurd hp List.not_mem_nil⟩, hb⟩
structure Pw (w : World) (v : Fv) (f : Dd.Fd) (W : World) : Prop where
 fs : Fs w w.heap.size v f W
 kE : Bk W (w.heap.size + 1) 70 #[.int .i64 0, .int .i64 0]
 env : Env W
theorem Pw.next {w W W' : World} {v : Fv} {f : Dd.Fd} (h : Pw w v f W) (hb : Below W.heap.size W W') : Pw w v f W' := ⟨h.fs.next hb, h.kE.below hb h.kE.lt, h.env.step hb⟩
theorem Pw.new {w : World} {v : Fv} {f : Dd.Fd} (hF : FRd w w.heap.size v f) (hE : Env w) : Pw w v f ((w.alloc (.cells #[.slice v.a1 f.st.length v.c1, .slice v.a2 f.li.length v.c2, .slice v.a3 f.pa.length v.c3, .slice v.a4 f.va.length v.c4] 27)).alloc (.cells #[.int .i64 0, .int .i64 0] 70)) := by
 have h1 := Fs.new hF;obtain ⟨w1, hw1⟩ := zE (w.alloc (.cells #[.slice v.a1 f.st.length v.c1, .slice v.a2 f.li.length v.c2, .slice v.a3 f.pa.length v.c3, .slice v.a4 f.va.length v.c4] 27));have z1 : w1.heap.size = w.heap.size + 1 := by rw [<- hw1]; simp
 rw [hw1] at h1 ⊢;have b1 := (Below.refl w1.heap.size w1).alloc (Nat.le_refl _) (.cells #[.int .i64 0, .int .i64 0] 70);have k1 := Bk.new w1 70 #[.int .i64 0, .int .i64 0];rw [z1] at k1;exact ⟨h1.next b1, k1, (hE.step h1.b).step b1⟩
theorem y3g (v : Fv) (f : Dd.Fd) (src : Cs.Bs) (hs : src.length <= 999999) (w : World) (hF : FRd w w.heap.size v f) (hE : Env w) :
  Calls Tryz.prog 43 #[fval v f, .string ⟨src.toArray⟩] w (PdR w (Dd.parseD f src)) := by
 have hmf := zM;have hpd := Dd.y66 f src;have S0 := jQ (Pw.new hF hE);have CF := jQ (fun W (h : Pw w v f W) => y0Y v f W h.fs.rd);have hgl := hE.gl;have hFF := hF;simp only [y01] at CF S0 ⊢;obtain ⟨E, hEE⟩ := zE (Dd.fieldE f);obtain ⟨RR, hRR⟩ := zE (Dd.parseD f src);rw [hRR, hEE] at hpd;rw [hRR];rw [hEE] at CF;by_cases h0 : E = 0
 ·subst h0;rw [if_neg (by simp)] at hpd;have HPD := jQ hpd;have HEE := jQ hEE;have HFF := jQ hFF;clear hpd hEE hRR hF hE hFF;have f0 := (S0.o.fs.k.cell 0).trans rfl;have f1 := (S0.o.fs.k.cell 1).trans rfl;have f2 := (S0.o.fs.k.cell 2).trans rfl;have f3 := (S0.o.fs.k.cell 3).trans rfl;go_enter Tryz.func43, Tryz.ntmps43;go_wp2_with fail;refine (CF.o _ S0.o).mono ?_;rintro e w1 ⟨rfl, hb1⟩;have S1 := jQ (S0.o.next hb1);clear hb1 f0 f1 f2 f3;have f0 := (S1.o.fs.k.cell 0).trans rfl;have f1 := (S1.o.fs.k.cell 1).trans rfl;have f2 := (S1.o.fs.k.cell 2).trans rfl;have f3 := (S1.o.fs.k.cell 3).trans rfl;have fl := S1.o.fs.k.lt;have hb2 := (Below.refl w1.heap.size w1).alloc (Nat.le_refl _) (.cells #[.slice v.a1 f.st.length v.c1, .slice v.a2 f.li.length v.c2, .slice v.a3 f.pa.length v.c3, .slice v.a4 f.va.length v.c4, .slice none 0 0] 135);have kD := Bk.new w1 135 #[.slice v.a1 f.st.length v.c1, .slice v.a2 f.li.length v.c2, .slice v.a3 f.pa.length v.c3, .slice v.a4 f.va.length v.c4, .slice none 0 0];have z2 : (w1.alloc (.cells #[.slice v.a1 f.st.length v.c1, .slice v.a2 f.li.length v.c2, .slice v.a3 f.pa.length v.c3, .slice v.a4 f.va.length v.c4, .slice none 0 0] 135)).heap.size = w1.heap.size + 1 := World.size_alloc _ _;obtain ⟨w2, hw2⟩ := zE (w1.alloc (.cells #[.slice v.a1 f.st.length v.c1, .slice v.a2 f.li.length v.c2, .slice v.a3 f.pa.length v.c3, .slice v.a4 f.va.length v.c4, .slice none 0 0] 135));rw [hw2] at hb2 kD z2;have S2 := jQ (S1.o.next hb2);have hwz := S1.o.fs.b.size;have hq0 : Dq w2 w.heap.size w2.heap.size w1.heap.size v f [] none 0 (fun k => k = w1.heap.size) :=
   ⟨kD, World.ownsRow_nil _ _ _ _, fun p hp => absurd hp List.not_mem_nil, List.Pairwise.nil, fun k => by simp [sl, Value.ownBlock], ⟨by omega, by omega⟩, Nat.le_refl _, S2.o.fs.r, by omega, Nat.zero_le _, fun p hp => absurd hp List.not_mem_nil⟩
  have HRL := jQ (y2K 105 #[.pointer (some ⟨w1.heap.size, 0, none⟩)] #[] _ (Dd.stepL f) [] (fun k => k = w1.heap.size) w2 (y8T w.heap.size w2.heap.size w1.heap.size w2.heap.size v f HEE.o (by omega)) ⟨[], none, 0, rfl, hq0⟩ S2.o.env src hs);have HW2 := jQ hw2;have hl2 : w.heap.size + 1 < w1.heap.size := S1.o.kE.lt;clear hb2 kD z2 hw2 hq0 hwz;obtain ⟨S, hS⟩ := zE (Dd.sourceG (Dd.stepL f) [] src);rw [hS] at HRL HPD;obtain ⟨⟨q1, q2⟩, ds⟩ := S;dsimp only at HRL HPD;clear hS;go_wp2_with fail;rw [HW2.o];refine HRL.o.mono ?_;rintro e w3 ⟨rfl, hbut, hok⟩;have k3 := hbut.bk S2.o.kE (show ¬ w.heap.size + 1 = w1.heap.size by omega);have hb3 := But.back S2.o.fs.b hbut (fun k hk => by have h1 : k = w1.heap.size := hk; omega) S2.o.fs.b.size;have hb4 := (Below.refl w3.heap.size w3).alloc (Nat.le_refl _) (.cells #[.int .i64 q1, .int .i64 q2] 70);have k4 := k3.below hb4 k3.lt;have kF4 := Bk.new w3 70 #[.int .i64 q1, .int .i64 q2];have hB4 := hb3.trans (hb4.mono hb3.size);have c0 := (kF4.cell 0).trans rfl;have c1 := (kF4.cell 1).trans rfl;have K4 := jQ k4;have KF4 := jQ kF4;have HB4 := jQ hB4;have HOK := jQ hok;clear k3 hb3 k4 kF4 hB4 f0 f1 f2 f3 fl hok;by_cases hq : (q1, q2) = ((0 : Int), (0 : Int))
  ·obtain ⟨rfl, rfl⟩ : q1 = 0 /\ q2 = 0 := by simpa using hq
   obtain ⟨R', m, hm, ⟨ps, A, c, hps, hD⟩, _⟩ := HOK.o rfl;have hD4 := hD.keep (But.of hb4 (X := fun _ => False)) (fun k hk => hk.elim);have HD := jQ hD4;have HPS := jQ hps;have HP2 := jQ (show RR = (ds, (0, 0)) by rw [HPD.o, if_pos rfl]);have c4 := (hD4.k.cell 4).trans rfl;have gl := hD4.k.lt;clear hq hD hD4 hps hb4 hbut;go_wp2_with (refine wpList_store_row rfl 70 (.tmp 5) (.tmp 26) rfl (w.heap.size + 1) _ rfl rfl 70 _ K4.o (by kernel_rfl) rfl (by kernel_rfl) ?_);have hrow := K4.o.row #[.int .i64 0, .int .i64 0];have HROW := jQ hrow;clear hrow;refine bodyPost_ret (y0m rfl _ _ _ (w.heap.size + 1) 70 _ (0, 0) _ rfl rfl HROW.o Tryz.underlying70 rfl (by kernel_rfl)) rfl ?_;rw [HP2.o];have hbr : Below (w.heap.size + 1) (w3.alloc (.cells #[.int .i64 0, .int .i64 0] 70)) ((w3.alloc (.cells #[.int .i64 0, .int .i64 0] 70)).setRow (w.heap.size + 1) #[.int .i64 0, .int .i64 0]) := Below.rowNew (Below.refl _ _) (Nat.le_refl _) _;have hbu : But (fun k => k = w.heap.size + 1) (w3.alloc (.cells #[.int .i64 0, .int .i64 0] 70)) ((w3.alloc (.cells #[.int .i64 0, .int .i64 0] 70)).setRow (w.heap.size + 1) #[.int .i64 0, .int .i64 0]) := But.row (X := fun k => k = w.heap.size + 1) (But.refl _ _) rfl _;have hz9 : w.heap.size + 1 < w2.heap.size := S2.o.kE.lt;have hD5 := HD.o.keep hbu (fun k hk => by
    have h1 : k = w.heap.size + 1 := hk;refine ⟨fun hR => ?_, by omega⟩;rcases (HD.o.hR k).1 hR with e | e | ⟨p, hp, e⟩
    ·omega
    ·have := y0E HD.o.o k e; omega
    have := y0E (HD.o.oc p hp) k e; omega)
   exact ⟨A, c, ps, HPS.o, rfl, (Dq.rd hD5).1, (Dq.rd hD5).2, ⟨hD5.l1, hD5.l2⟩, Below.rowNew HB4.o (by omega) _⟩
  have hz : (q1 == 0 && q2 == 0) = false := by
   rw [Bool.eq_false_iff];intro h;simp only [Bool.and_eq_true, beq_iff_eq] at h;exact hq (by rw [h.1, h.2])
  have HP2 := jQ (show RR = ([], (q1, q2)) by rw [HPD.o, if_neg hq]);have hlt3 := jQ (show w.heap.size + 1 < w3.heap.size from Nat.lt_of_lt_of_le S2.o.kE.lt hbut.size);have HZ := jQ hz;clear hq hb4 hbut hz;by_cases h1 : q1 = 0
  ·subst h1;have g5 : (q2 == 0) = false := by have := HZ.o; simpa using this
   go_upto_region 7 with fail;refine wp_region_held_drew (S := fun V : World => V.cell? ⟨w3.heap.size, 0, none⟩ = some (.int .i64 0) /\ V.cell? ⟨w3.heap.size, 1, none⟩ = some (.int .i64 q2)) (by kernel_rfl) ⟨(KF4.o.cell 0).trans rfl, (KF4.o.cell 1).trans rfl⟩ (fun hHeld => ?_);simp only [List.size_toArray, List.length_cons, List.length_nil, Nat.reduceAdd, Array.replicate_succ, Array.replicate_zero, List.push_toArray, List.append_toArray, List.nil_append, List.cons_append];refine wpAnyH_take (i := 0) (v := ?_) rfl (by kernel_rfl) (by kernel_rfl) (by kernel_rfl) (fun _ _ _ h => h) (Or.inl ⟨by rfl, ?_⟩) (by assumption) ?_;rotate_left
   ·(intro w hSw; obtain ⟨d0, d1⟩ := hSw; go_simp <;> with_reducible rfl)
   (try simp only [Act.put, zC, zB])
   refine wpAnyH_take (i := 1) (v := ?_) rfl (by kernel_rfl) (by kernel_rfl) (by kernel_rfl) (fun _ _ _ h => h) (Or.inl ⟨by rfl, ?_⟩) (by assumption) ?_;rotate_left
   ·(intro w hSw; obtain ⟨d0, d1⟩ := hSw; go_simp <;> with_reducible rfl)
   (try simp only [Act.put, zC, zB])
   refine wpAnyH_ready (rs := [2]) (by kernel_rfl) (by simp) ?_;refine zA rfl fun K hK => ?_;refine wp_store_row 70 (.tmp 5) (.tmp 23) rfl (w.heap.size + 1) _ rfl rfl 70 _ (Bk.drewB' K4.o) (by kernel_rfl) rfl (by kernel_rfl) ?_;have kf9 := KF4.o.row_far (show w3.heap.size ≠ w.heap.size + 1 by have := K4.o.lt; have := hlt3.o; omega) #[.int .i64 0, .int .i64 q2];refine hK.out _ _ ⟨(kf9.cell 0).trans rfl, (kf9.cell 1).trans rfl⟩ (fun hHeld => ?_);clear hK kf9;refine wpAnyH_done (by kernel_rfl) ?_ _
   (try simp only [Act.put, zC, zB])
   have hrow := (Bk.drewB' K4.o).row #[.int .i64 0, .int .i64 q2];have HROW := jQ hrow;clear hrow;go_wp2_with fail;refine bodyPost_ret (y0m rfl _ _ _ (w.heap.size + 1) 70 _ (0, 0) _ rfl rfl HROW.o Tryz.underlying70 rfl (by kernel_rfl)) rfl ?_;exact PdR.none_ HP2.o (Below.rowNew HB4.o.drew (by omega) _)
  have g5 : (q1 == 0) = false := by simpa using h1
  clear h1;go_upto_region 7 with fail;refine wp_region_held_drew (S := fun V : World => V.cell? ⟨w3.heap.size, 0, none⟩ = some (.int .i64 q1) /\ V.cell? ⟨w3.heap.size, 1, none⟩ = some (.int .i64 q2)) (by kernel_rfl) ⟨(KF4.o.cell 0).trans rfl, (KF4.o.cell 1).trans rfl⟩ (fun hHeld => ?_);simp only [List.size_toArray, List.length_cons, List.length_nil, Nat.reduceAdd, Array.replicate_succ, Array.replicate_zero, List.push_toArray, List.append_toArray, List.nil_append, List.cons_append];refine wpAnyH_take (i := 0) (v := ?_) rfl (by kernel_rfl) (by kernel_rfl) (by kernel_rfl) (fun _ _ _ h => h) (Or.inl ⟨by rfl, ?_⟩) (by assumption) ?_;rotate_left
  ·(intro w hSw; obtain ⟨d0, d1⟩ := hSw; go_simp <;> with_reducible rfl)
  (try simp only [Act.put, zC, zB])
  refine wpAnyH_take (i := 1) (v := ?_) rfl (by kernel_rfl) (by kernel_rfl) (by kernel_rfl) (fun _ _ _ h => h) (Or.inl ⟨by rfl, ?_⟩) (by assumption) ?_;rotate_left
  ·(intro w hSw; obtain ⟨d0, d1⟩ := hSw; go_simp <;> with_reducible rfl)
  (try simp only [Act.put, zC, zB])
  refine wpAnyH_ready (rs := [2]) (by kernel_rfl) (by simp) ?_;refine zA rfl fun K hK => ?_;refine wp_store_row 70 (.tmp 5) (.tmp 23) rfl (w.heap.size + 1) _ rfl rfl 70 _ (Bk.drewB' K4.o) (by kernel_rfl) rfl (by kernel_rfl) ?_;have kf9 := KF4.o.row_far (show w3.heap.size ≠ w.heap.size + 1 by have := K4.o.lt; have := hlt3.o; omega) #[.int .i64 q1, .int .i64 q2];refine hK.out _ _ ⟨(kf9.cell 0).trans rfl, (kf9.cell 1).trans rfl⟩ (fun hHeld => ?_);clear hK kf9;refine wpAnyH_done (by kernel_rfl) ?_ _
  (try simp only [Act.put, zC, zB])
  have hrow := (Bk.drewB' K4.o).row #[.int .i64 q1, .int .i64 q2];have HROW := jQ hrow;clear hrow;go_wp2_with fail;refine bodyPost_ret (y0m rfl _ _ _ (w.heap.size + 1) 70 _ (0, 0) _ rfl rfl HROW.o Tryz.underlying70 rfl (by kernel_rfl)) rfl ?_;exact PdR.none_ HP2.o (Below.rowNew HB4.o.drew (by omega) _)
 rw [if_pos h0] at hpd;have hne : (E != 0) = true := by simp [h0]
 have HPD := jQ hpd;clear hpd hEE hRR hF hE hFF h0;have f0 := (S0.o.fs.k.cell 0).trans rfl;have f1 := (S0.o.fs.k.cell 1).trans rfl;have f2 := (S0.o.fs.k.cell 2).trans rfl;have f3 := (S0.o.fs.k.cell 3).trans rfl;go_enter Tryz.func43, Tryz.ntmps43;go_wp2_with fail;refine (CF.o _ S0.o).mono ?_;rintro e w1 ⟨rfl, hb1⟩;have S1 := jQ (S0.o.next hb1);have HK1 := jQ S1.o.kE;clear hb1 f0 f1 f2 f3;go_wp2_with (refine wpList_store_row rfl 70 (.tmp 5) (.tmp 14) rfl (w.heap.size + 1) _ rfl rfl 70 _ HK1.o (by kernel_rfl) rfl (by kernel_rfl) ?_);have hrow := HK1.o.row #[.int .i64 E, .int .i64 0];have HROW := jQ hrow;clear hrow;refine bodyPost_ret (y0m rfl _ _ _ (w.heap.size + 1) 70 _ (0, 0) _ rfl rfl HROW.o Tryz.underlying70 rfl (by kernel_rfl)) rfl ?_;exact PdR.none_ HPD.o (Below.rowNew S1.o.fs.b (by omega) _)
end
end Go.Proofs.YtccikcpcfdjobaaGreatDoor
