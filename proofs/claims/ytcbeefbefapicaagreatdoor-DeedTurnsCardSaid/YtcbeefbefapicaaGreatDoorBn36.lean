/-
  What the claims of layer deed need of the texts DRd.
-/
import Derived.Test.YtcbeefbefapicaaGreatDoorBn35
set_option linter.unusedVariables false
set_option linter.unusedSimpArgs false
namespace Go.Proofs.YtcbeefbefapicaaGreatDoor
open Go.RowKit
set_option maxRecDepth 100000
theorem infoDe : (Tryz.prog.info? 180).map (fun i => (i.zero, i.size, i.bytes)) = some (some (.agg #[.string ⟨#[]⟩, .int .i64 0, .int .i64 0, .slice none 0 0]), 4, 56) := by kernel_rfl
theorem Dd.deedM (l : List Dd.De) (ws : List Cs.Bs) : Dd.deedL l ws = match Dd.nameW ws with | none => (4, l) | some p => match Dd.nnW p.2 with | none => (4, l) | some q => match Dd.nnW q.2 with | none => (4, l) | some s => match Dd.endW s.2 with | none => (4, l) | some _ => if 60 ≤ l.length then (2, l) else if Dd.dated ⟨p.1, q.1, s.1, []⟩ = false then (1, l) else if p.1 ∈ l.map (·.name) then (6, l) else (0, l ++ [⟨p.1, q.1, s.1, []⟩]) := by
 rcases ws with _ | ⟨n, _ | ⟨y, _ | ⟨z, _ | ⟨u, r⟩⟩⟩⟩
 ·rfl
 ·rcases hn : Dd.nameF n <;> simp [Dd.deedL, Dd.nameW, Dd.nnW, hn]
 ·rcases hn : Dd.nameF n <;> rcases hy : Dd.nnF y <;> simp [Dd.deedL, Dd.nameW, Dd.nnW, hn, hy]
 ·rcases hn : Dd.nameF n <;> rcases hy : Dd.nnF y <;> rcases hz : Dd.nnF z <;> simp [Dd.deedL, Dd.nameW, Dd.nnW, Dd.endW, hn, hy, hz]
 ·rcases hn : Dd.nameF n <;> rcases hy : Dd.nnF y <;> rcases hz : Dd.nnF z <;> simp [Dd.deedL, Dd.nameW, Dd.nnW, Dd.endW, hn, hy, hz]
structure Rw (V : World) (b F B g : Nat) (v : Fv) (f : Dd.Fd) (ps : List Dp) (A : Option Addr) (c : Nat) (R : Nat → Prop) (W : World) : Prop where
 q : Dq W F B g v f ps A c R
 env : Env W
 bt : But (fun k => k = b) V W
 fb : F ≤ b
 b9 : 9 ≤ b
 nb : ¬ R b
section
variable {V W W' : World} {b F B g : Nat} {v : Fv} {f : Dd.Fd} {ps : List Dp} {A : Option Addr} {c : Nat} {R : Nat → Prop}
theorem Rw.next (h : Rw V b F B g v f ps A c R W) (hb : Below W.heap.size W W') : Rw V b F B g v f ps A c R W' :=
 ⟨h.q.keep (But.of hb (X := fun _ => False)) (fun k hk => hk.elim), h.env.step hb, h.bt.trans (But.of hb), h.fb, h.b9, h.nb⟩
theorem Rw.nextB (h : Rw V b F B g v f ps A c R W) (hb : But (fun k => k = b) W W') : Rw V b F B g v f ps A c R W' :=
 ⟨h.q.keep hb (fun k hk => by rw [show k = b from hk]; exact ⟨h.nb, h.fb⟩), h.env.but1 hb h.b9, h.bt.trans hb, h.fb, h.b9, h.nb⟩
end
theorem nameW_len {ws : List Cs.Bs} {n : Cs.Bs} {r : List Cs.Bs} {W : World} {b : Nat} (h : Dd.nameW ws = some (n, r)) (hz : Wz W b ws) : n.length ≤ 1000000 := by
 rcases ws with _ | ⟨x, r'⟩
 ·cases h
 ·rw [Dd.nameW] at h
  split at h
  ·simp only [Option.some.injEq, Prod.mk.injEq] at h
   rw [← h.1]
   exact hz.hl x List.mem_cons_self
  ·cases h
set_option maxHeartbeats 8000000 in
theorem readDeed_any (F B g b : Nat) (v : Fv) (f : Dd.Fd) (ps : List Dp) (A : Option Addr) (c : Nat) (R : Nat → Prop) (ws : List Cs.Bs) (V : World) (hE : Env V) (hz : Wz V b (Dd.kDeed :: ws)) (hQ : Dq V F B g v f ps A c R) (hbR : ¬ R b) (hFb : F ≤ b) (h9 : 9 ≤ b) :
  Calls Tryz.prog 112 #[.pointer (some ⟨g, 0, none⟩), .pointer (some ⟨b, 0, none⟩)] V (Fs3 (Dd.deedL (ps.map (fun p : Dp => p.1)) ws) F B g b v f R V) := by
 obtain ⟨i0, hi0, hz0, hz1, hz2⟩ := info_parts infoDe
 have HM := Lib.hid (Dd.deedM (ps.map (fun p : Dp => p.1)) ws)
 have HZ := Lib.hid hz
 have S0 := Lib.hid (show Rw V b F B g v f ps A c R V from ⟨hQ, hE, But.refl _ _, hFb, h9, hbR⟩)
 obtain ⟨RR, hRR⟩ : ∃ r, Dd.deedL (ps.map (fun p : Dp => p.1)) ws = r := ⟨_, rfl⟩
 rw [hRR] at HM ⊢
 have hll := hQ.l1
 clear hz hQ hbR hRR hE hFb h9
 go_enter Tryz.func112, Tryz.ntmps112
 go_wp2_with fail
 refine (fixed_any b Dd.kDeed (Dd.kDeed :: ws) _ HZ.out).mono ?_
 intro e w0 he
 obtain ⟨rfl, hb, hz'⟩ := he.some_ (show Dd.fixW Dd.kDeed (Dd.kDeed :: ws) = some ((), ws) by simp [Dd.fixW])
 have S1 := Lib.hid (S0.out.nextB hb)
 have HZ1 := Lib.hid hz'
 clear he hb hz'
 simp only [uv]
 go_wp2_with fail
 rcases hs : Dd.nameW ws with _ | ⟨x1, r1⟩
 ·have HX := Lib.hid (show RR.1 = 4 by rw [HM.out, hs])
  have HS := Lib.hid hs
  clear hs
  refine (wname_any b ws _ HZ1.out).mono ?_
  intro e w1 he
  obtain ⟨rfl, hb⟩ := he.none_ HS.out
  clear he
  go_wp2_with fail
  exact ⟨rfl, Fs3.no HX.out (by decide) (S1.out.bt.trans hb)⟩
 have HNL := Lib.hid (nameW_len hs HZ1.out)
 have HS := Lib.hid hs
 clear hs
 refine (wname_any b ws _ HZ1.out).mono ?_
 intro e w1 he
 obtain ⟨rfl, hb, hz'⟩ := he.some_ HS.out
 have S2 := Lib.hid (S1.out.nextB hb)
 have HZ2 := Lib.hid hz'
 clear he hb hz'
 simp only [sv_def]
 go_wp2_with fail
 rcases hs : Dd.nnW r1 with _ | ⟨x2, r2⟩
 ·have HX := Lib.hid (show RR.1 = 4 by rw [HM.out, HS.out]; simp only []; rw [hs])
  have HS2 := Lib.hid hs
  clear hs
  refine (number_any b r1 _ S2.out.env HZ2.out).mono ?_
  intro e w2 he
  obtain ⟨rfl, hb⟩ := he.none_ HS2.out
  clear he
  go_wp2_with fail
  exact ⟨rfl, Fs3.no HX.out (by decide) (S2.out.bt.trans hb)⟩
 have HS2 := Lib.hid hs
 clear hs
 refine (number_any b r1 _ S2.out.env HZ2.out).mono ?_
 intro e w2 he
 obtain ⟨rfl, hb, hz'⟩ := he.some_ HS2.out
 have S3 := Lib.hid (S2.out.nextB hb)
 have HZ3 := Lib.hid hz'
 clear he hb hz'
 simp only [zv]
 go_wp2_with fail
 rcases hs : Dd.nnW r2 with _ | ⟨x3, r3⟩
 ·have HX := Lib.hid (show RR.1 = 4 by rw [HM.out, HS.out]; simp only []; rw [HS2.out]; simp only []; rw [hs])
  have HS3 := Lib.hid hs
  clear hs
  refine (number_any b r2 _ S3.out.env HZ3.out).mono ?_
  intro e w3 he
  obtain ⟨rfl, hb⟩ := he.none_ HS3.out
  clear he
  go_wp2_with fail
  exact ⟨rfl, Fs3.no HX.out (by decide) (S3.out.bt.trans hb)⟩
 have HS3 := Lib.hid hs
 clear hs
 refine (number_any b r2 _ S3.out.env HZ3.out).mono ?_
 intro e w3 he
 obtain ⟨rfl, hb, hz'⟩ := he.some_ HS3.out
 have hbl := hz'.lt
 have hbn := (Below.refl w3.heap.size w3).alloc (Nat.le_refl _) (.cells #[.string ⟨x1.toArray⟩, .int .i64 x2, .int .i64 x3, .slice none 0 0] 180)
 have S4 := Lib.hid ((S3.out.nextB hb).next hbn)
 have HZ4 := Lib.hid (hz'.below hbn)
 have HK4 := Lib.hid (Bk.new w3 180 #[.string ⟨x1.toArray⟩, .int .i64 x2, .int .i64 x3, .slice none 0 0])
 have hnb : ¬ w3.heap.size = b := by omega
 clear he hb hz' hbl hbn
 simp only [zv]
 go_wp2_with fail
 rcases hs : Dd.endW r3 with _ | ⟨u, r4⟩
 ·have HX := Lib.hid (show RR.1 = 4 by rw [HM.out, HS.out]; simp only []; rw [HS2.out]; simp only []; rw [HS3.out]; simp only []; rw [hs])
  have HS4 := Lib.hid hs
  clear hs
  refine (wend_any b r3 _ HZ4.out).mono ?_
  intro e w4 he
  obtain ⟨rfl, hb⟩ := he.none_ HS4.out
  clear he
  go_wp2_with fail
  exact ⟨rfl, Fs3.no HX.out (by decide) (S4.out.bt.trans hb)⟩
 have HX := Lib.hid (show RR = if 60 ≤ (ps.map (fun p : Dp => p.1)).length then (2, (ps.map (fun p : Dp => p.1))) else if Dd.dated ⟨x1, x2, x3, []⟩ = false then (1, (ps.map (fun p : Dp => p.1))) else if x1 ∈ (ps.map (fun p : Dp => p.1)).map (·.name) then (6, (ps.map (fun p : Dp => p.1))) else (0, (ps.map (fun p : Dp => p.1)) ++ [⟨x1, x2, x3, []⟩]) by
  rw [HM.out, HS.out]; simp only []; rw [HS2.out]; simp only []; rw [HS3.out]; simp only []; rw [hs])
 have HS4 := Lib.hid hs
 clear hs
 refine (wend_any b r3 _ HZ4.out).mono ?_
 intro e w4 he
 obtain ⟨rfl, hb, _⟩ := he.some_ HS4.out
 have S5 := Lib.hid (S4.out.nextB hb)
 have hk5 := hb.bk HK4.out hnb
 have HK5 := Lib.hid hk5
 clear he hb hk5
 have c4 := (S5.out.q.k.cell 4).trans rfl
 have hgl := S5.out.q.k.lt
 simp only [uv]
 by_cases h60 : 60 ≤ ps.length
 ·have h60' : ps.length = 60 := by omega
  have HR2 := Lib.hid (show RR.1 = 2 by rw [HX.out, if_pos (by simpa using h60)])
  rw [h60'] at c4
  clear h60 h60' hll
  go_wp2_with fail
  refine (need_no _ _).mono ?_
  rintro e w5 ⟨rfl, hb5⟩
  go_wp2_with fail
  exact ⟨rfl, Fs3.no HR2.out (by decide) (S5.out.bt.trans (But.of hb5))⟩
 have hd60 : decide ((ps.length : Int) < 60) = true := decide_eq_true (by omega)
 have HX2 := Lib.hid (show RR = if Dd.dated ⟨x1, x2, x3, []⟩ = false then (1, (ps.map (fun p : Dp => p.1))) else if x1 ∈ (ps.map (fun p : Dp => p.1)).map (·.name) then (6, (ps.map (fun p : Dp => p.1))) else (0, (ps.map (fun p : Dp => p.1)) ++ [⟨x1, x2, x3, []⟩]) by rw [HX.out, if_neg (by simpa using h60)])
 have H60 := Lib.hid h60
 clear h60
 go_wp2_with fail
 refine (need_yes _ _).mono ?_
 rintro e w5 ⟨rfl, hb5⟩
 have S6 := Lib.hid (S5.out.next hb5)
 have hk6 := HK5.out.below hb5 HK5.out.lt
 have HK6 := Lib.hid hk6
 clear hb5 c4 hgl hd60
 have y0 := (hk6.cell 0).trans rfl
 have y1 := (hk6.cell 1).trans rfl
 have y2 := (hk6.cell 2).trans rfl
 have y3 := (hk6.cell 3).trans rfl
 have yl := hk6.lt
 clear hk6
 have ID := isDated_any ⟨x1, x2, x3, []⟩ none 0
 simp only [deval_def, List.length_nil] at ID
 obtain ⟨D, hD⟩ : ∃ D, Dd.dated ⟨x1, x2, x3, []⟩ = D := ⟨_, rfl⟩
 rw [hD] at ID HX2
 have HID := Lib.hid ID
 clear ID hD
 go_wp2_with fail
 refine (HID.out _).mono ?_
 rintro e w6 ⟨rfl, hb6⟩
 have S7 := Lib.hid (S6.out.next hb6)
 have HK7 := Lib.hid (HK6.out.below hb6 HK6.out.lt)
 clear hb6 y0 y1 y2 y3 yl
 go_wp2_with fail
 rcases D with _ | _
 ·have HR2 := Lib.hid (show RR.1 = 1 by rw [HX2.out, if_pos rfl])
  refine (need_no _ _).mono ?_
  rintro e w7 ⟨rfl, hb7⟩
  go_wp2_with fail
  exact ⟨rfl, Fs3.no HR2.out (by decide) (S7.out.bt.trans (But.of hb7))⟩
 have HX3 := Lib.hid (show RR = if x1 ∈ (ps.map (fun p : Dp => p.1)).map (·.name) then (6, (ps.map (fun p : Dp => p.1))) else (0, (ps.map (fun p : Dp => p.1)) ++ [⟨x1, x2, x3, []⟩]) by rw [HX2.out, if_neg (by simp)])
 refine (need_yes _ _).mono ?_
 rintro e w7 ⟨rfl, hb7⟩
 have S8 := Lib.hid (S7.out.next hb7)
 have HK8 := Lib.hid (HK7.out.below hb7 HK7.out.lt)
 clear hb7
 go_upto_region 5 with fail
 have S9 := Lib.hid (S8.out.next (Below.refl _ _).drew)
 have HK9 := Lib.hid (HK8.out.below (Below.refl w7.heap.size w7).drew HK8.out.lt)
 obtain ⟨z, hz⟩ : ∃ z, Dd.idx (ps.map (fun p : Dp => p.1.name)) x1 = z := ⟨_, rfl⟩
 have hz' : Dd.idx ((ps.map (fun p : Dp => p.1)).map (·.name)) x1 = z := by rw [List.map_map]; exact hz
 have hzn := @Dd.idx_neg ((ps.map (fun p : Dp => p.1)).map (·.name)) x1
 rw [hz'] at hzn
 have HZN := Lib.hid hzn
 have hnm := fun w (h : DeRd w w.heap.size A ps) => namDe_any A c ps x1 w h.l (by omega)
 rw [hz] at hnm
 have HNM := Lib.hid hnm
 clear hz hz' hzn hnm
 refine wp_region_held_drew (S := fun V : World => V.cell? ⟨g, 4, none⟩ = some (.slice A ps.length c) ∧ V.cell? ⟨w3.heap.size, 0, none⟩ = some (.string ⟨x1.toArray⟩)) (by kernel_rfl) ⟨(S9.out.q.k.cell 4).trans rfl, (HK9.out.cell 0).trans rfl⟩ (fun hHeld => ?_)
 simp only [List.size_toArray, List.length_cons, List.length_nil, Nat.reduceAdd, Array.replicate_succ, Array.replicate_zero, List.push_toArray, List.append_toArray, List.nil_append, List.cons_append]
 refine wpAnyH_take (i := 0) (v := ?_) rfl (by kernel_rfl) (by kernel_rfl) (by kernel_rfl) (fun _ _ _ h => h) (Or.inl ⟨by rfl, ?_⟩) (by assumption) ?_
 rotate_left
 ·(intro w hSw; obtain ⟨h1, h2⟩ := hSw; go_simp <;> with_reducible rfl)
 (try simp only [Act.put, List.getElem_toArray, List.getElem_cons_succ, List.getElem_cons_zero, List.setIfInBounds_toArray, List.set_cons_zero, List.set_cons_succ])
 refine wpAnyH_take (i := 1) (v := ?_) rfl (by kernel_rfl) (by kernel_rfl) (by kernel_rfl) (fun _ _ _ h => h) (Or.inl ⟨by rfl, ?_⟩) (by assumption) ?_
 rotate_left
 ·(intro w hSw; obtain ⟨h1, h2⟩ := hSw; go_simp <;> with_reducible rfl)
 (try simp only [Act.put, List.getElem_toArray, List.getElem_cons_succ, List.getElem_cons_zero, List.setIfInBounds_toArray, List.set_cons_zero, List.set_cons_succ])
 refine wpAnyH_take (i := 2) (v := ?_) rfl (by kernel_rfl) (by kernel_rfl) (by kernel_rfl) (fun _ _ _ h => h) (Or.inl ⟨by rfl, ?_⟩) (by assumption) ?_
 rotate_left
 ·(intro w hSw; obtain ⟨h1, h2⟩ := hSw; go_simp <;> with_reducible rfl)
 (try simp only [Act.put, List.getElem_toArray, List.getElem_cons_succ, List.getElem_cons_zero, List.setIfInBounds_toArray, List.set_cons_zero, List.set_cons_succ])
 refine wpAnyH_take (i := 3) (v := ?_) rfl (by kernel_rfl) (by kernel_rfl) (by kernel_rfl) (fun _ _ _ h => h) (Or.inl ⟨by rfl, ?_⟩) (by assumption) ?_
 rotate_left
 ·(intro w hSw; obtain ⟨h1, h2⟩ := hSw; go_simp <;> with_reducible rfl)
 (try simp only [Act.put, List.getElem_toArray, List.getElem_cons_succ, List.getElem_cons_zero, List.setIfInBounds_toArray, List.set_cons_zero, List.set_cons_succ])
 refine wpAnyH_take (i := 4) (v := ?_) rfl (by kernel_rfl) (by kernel_rfl) (by kernel_rfl) (fun _ _ _ h => h) (Or.inl ⟨by rfl, ?_⟩) (by assumption) ?_
 rotate_left
 ·(intro w hSw; obtain ⟨h1, h2⟩ := hSw; go_simp <;> with_reducible rfl)
 (try simp only [Act.put, List.getElem_toArray, List.getElem_cons_succ, List.getElem_cons_zero, List.setIfInBounds_toArray, List.set_cons_zero, List.set_cons_succ])
 refine wpAnyH_take (i := 5) (v := ?_) rfl (by kernel_rfl) (by kernel_rfl) (by kernel_rfl) (fun _ _ _ h => h) (Or.inl ⟨by rfl, ?_⟩) (by assumption) ?_
 rotate_left
 ·(intro w hSw; obtain ⟨h1, h2⟩ := hSw; go_simp <;> with_reducible rfl)
 (try simp only [Act.put, List.getElem_toArray, List.getElem_cons_succ, List.getElem_cons_zero, List.setIfInBounds_toArray, List.set_cons_zero, List.set_cons_succ])
 refine wpAnyH_ready (rs := [6]) (by kernel_rfl) (by simp) ?_
 refine AllReadyH.cons rfl (fun K hK => ?_) AllReadyH.nil
 go_simp
 go_at_call 137
 refine (HNM.out _ (Dq.rd S9.out.q).1).mono ?_
 rintro e w10 ⟨rfl, hb10⟩
 have S10 := Lib.hid (S9.out.next hb10)
 have HK10 := Lib.hid (HK9.out.below hb10 HK9.out.lt)
 have HB10 := Lib.hid hb10
 clear hb10
 (try go_wp2_with fail)
 refine hK.out _ _ ⟨(S10.out.q.k.cell 4).trans rfl, (HK10.out.cell 0).trans rfl⟩ (fun hHeld => ?_)
 clear hK K
 (try simp only [Act.put, List.getElem_toArray, List.getElem_cons_succ, List.getElem_cons_zero, List.setIfInBounds_toArray, List.set_cons_zero, List.set_cons_succ])
 refine wpAnyH_take (i := 7) (v := ?_) rfl (by kernel_rfl) (by kernel_rfl) (by kernel_rfl) (fun _ _ _ h => h) (Or.inl ⟨by rfl, ?_⟩) (by assumption) ?_
 rotate_left
 ·(intro w hSw; obtain ⟨h1, h2⟩ := hSw; go_simp <;> with_reducible rfl)
 (try simp only [Act.put, List.getElem_toArray, List.getElem_cons_succ, List.getElem_cons_zero, List.setIfInBounds_toArray, List.set_cons_zero, List.set_cons_succ])
 refine wpAnyH_ready (rs := [8]) (by kernel_rfl) (by simp) ?_
 refine AllReadyH.cons rfl (fun K hK => ?_) AllReadyH.nil
 go_simp
 by_cases hneg : z < 0
 ·have hx := Lib.hid (HZN.out.1 hneg)
  rw [decide_eq_true hneg]
  go_at_call 101
  refine (need_yes _ _).mono ?_
  rintro e w11 ⟨rfl, hb11⟩
  have S11 := Lib.hid (S10.out.next hb11)
  have HK11 := Lib.hid (HK10.out.below hb11 HK10.out.lt)
  clear hb11
  (try go_wp2_with fail)
  refine hK.out _ _ ⟨(S11.out.q.k.cell 4).trans rfl, (HK11.out.cell 0).trans rfl⟩ (fun hHeld => ?_)
  clear hK K
  (try simp only [Act.put, List.getElem_toArray, List.getElem_cons_succ, List.getElem_cons_zero, List.setIfInBounds_toArray, List.set_cons_zero, List.set_cons_succ])
  refine wpAnyH_done (by kernel_rfl) ?_ _
  have HX4 := Lib.hid (show RR = (0, (ps.map (fun p : Dp => p.1)) ++ [⟨x1, x2, x3, []⟩]) by rw [HX3.out, if_neg hx.out])
  clear hneg hx
  have ho := S11.out.q.o
  have hlt := S11.out.q.k.lt
  have hle := S11.out.q.le
  have hgB := S11.out.q.gB
  have hk := HK11.out
  have y0 := (hk.cell 0).trans rfl
  have y1 := (hk.cell 1).trans rfl
  have y2 := (hk.cell 2).trans rfl
  have y3 := (hk.cell 3).trans rfl
  have yl := hk.lt
  have c4 := (S11.out.q.k.cell 4).trans rfl
  have hcw : ∀ o, (w11.alloc o).cell? ⟨g, 4, none⟩ = some (.slice A ps.length c) := fun o => (World.cell?_of_block (Below.heap_alloc _ _ _ hlt)).trans c4
  have HKG := Lib.hid S11.out.q.k
  have HNG := Lib.hid (show ¬ (Value.slice A ps.length c).ownBlock = some g from fun e => by have := own_low S11.out.q.o g e; omega)
  clear hk
  simp only [sl_def] at ho
  go_upto_region 6 with fail
  go_region_law (refine step_append_lies _ (by rfl) _ _ _ (by rfl) B 180 i0 _ 4 56 Tryz.underlying73 hi0 hz0 hz1 hz2 rfl (by omega) (.slice A ps.length c) ps.length (dcells ps) (by rfl) ((ho.alloc _).drew) ⟨w11.heap.size, 0, none⟩ 1 1 [.string ⟨x1.toArray⟩, .int .i64 x2, .int .i64 x3, .slice none 0 0] (by rfl) (by rfl) (World.news_of_block (cs := #[.string ⟨x1.toArray⟩, .int .i64 x2, .int .i64 x3, .slice none 0 0]) (t := 180) (fr := (0, 0)) (World.alloc_heap_new w11 _)) (by simp [Value.oneCell']) (by omega) (by unfold maxLen; omega) (by omega) (by simp; omega) (w11.heap.size + 1) (by simp) ?_; intro gn cn w12 hown hgrow hat hlt12; have hk4 := (But.grown hgrow).bk (Bk.below (HKG.out.alloc (.cells #[.string ⟨x1.toArray⟩, .int .i64 x2, .int .i64 x3, .slice none 0 0] 180)) ((Below.refl _ _).drew) (HKG.out.alloc (.cells #[.string ⟨x1.toArray⟩, .int .i64 x2, .int .i64 x3, .slice none 0 0] 180)).lt) HNG.out; have q1 := (hk4.cell 4).trans rfl; have q2 := hk4.frozen 4; have q3 := hk4.lt)
  all_goals
   obtain ⟨R', h1, h2, h3⟩ := S11.out.q.more (d := ⟨x1, x2, x3, []⟩) rfl HNL.out (by have := H60.out; omega) (((Below.refl w11.heap.size w11).alloc (Nat.le_refl _) (.cells #[.string ⟨x1.toArray⟩, .int .i64 x2, .int .i64 x3, .slice none 0 0] 180)).drew) hown hgrow (by rcases hat with e | e; exact .inl e; exact .inr (by omega))
   have H1 := Lib.hid h1
   have H2 := Lib.hid h2
   have H3 := Lib.hid h3
   clear h1 h2 h3 hk4 hown hgrow hat hlt12
   go_wp2_with fail
   go_end0
   have hb3 := S11.out.bt
   refine ⟨(hb3.mono (fun k h => .inl h)).trans (H2.out.mono (fun k h => .inr h)), .inl ⟨by rw [HX4.out], rfl, _, _, _, R', by rw [HX4.out]; simp, H1.out, fun k hk => ?_⟩⟩
   rcases H3.out k hk with e | e
   ·exact .inl e
   ·exact .inr (Nat.le_trans hb3.size e)
 ·have HR2 := Lib.hid (show RR.1 = 6 by rw [HX3.out, if_pos (Decidable.not_not.1 (fun h => hneg (HZN.out.2 h)))])
  rw [decide_eq_false hneg]
  go_at_call 101
  refine (need_no _ _).mono ?_
  rintro e w11 ⟨rfl, hb11⟩
  exact ⟨rfl, Fs3.no HR2.out (by decide) (S10.out.bt.trans (But.of hb11))⟩
end Go.Proofs.YtcbeefbefapicaaGreatDoor
