/-
  What the claims of layer deed need of the texts DRfs.
-/
import Derived.Test.YtcbeefbefapicaaGreatDoorBn35
set_option linter.unusedVariables false
set_option linter.unusedSimpArgs false
namespace Go.Proofs.YtcbeefbefapicaaGreatDoor
open Go.RowKit
set_option maxRecDepth 100000
theorem Bk.drewB' {w : World} {g : Nat} {t : TypeId} {cs : Array Value} (h : Bk w g t cs) : Bk w.drew g t cs := h
theorem Dd.stationM (f : Dd.Fd) (ws : List Cs.Bs) : Dd.stationL f ws = match Dd.nameW ws with | none => (4, f) | some p => match Dd.nnW p.2 with | none => (4, f) | some q => match Dd.endW q.2 with | none => (4, f) | some _ => (0, { f with st := f.st ++ [(p.1, q.1)] }) := by
 rcases ws with _ | ⟨n, _ | ⟨y, _ | ⟨z, r⟩⟩⟩
 ·rfl
 ·rcases hn : Dd.nameF n <;> simp [Dd.stationL, Dd.nameW, Dd.nnW, hn]
 ·rcases hn : Dd.nameF n <;> rcases hy : Dd.nnF y <;> simp [Dd.stationL, Dd.nameW, Dd.nnW, Dd.endW, hn, hy]
 ·rcases hn : Dd.nameF n <;> rcases hy : Dd.nnF y <;> simp [Dd.stationL, Dd.nameW, Dd.nnW, Dd.endW, hn, hy]
theorem Dd.variationM (f : Dd.Fd) (ws : List Cs.Bs) : Dd.variationL f ws = match Dd.nnW ws with | none => (4, f) | some p => match Dd.sgnW p.2 with | none => (4, f) | some q => match Dd.endW q.2 with | none => (4, f) | some _ => (0, { f with va := f.va ++ [(p.1, q.1)] }) := by
 rcases ws with _ | ⟨n, _ | ⟨y, _ | ⟨z, r⟩⟩⟩
 ·rfl
 ·rcases hn : Dd.nnF n <;> simp [Dd.variationL, Dd.sgnW, Dd.nnW, hn]
 ·rcases hn : Dd.nnF n <;> rcases hy : Dd.sgnF y <;> simp [Dd.variationL, Dd.sgnW, Dd.nnW, Dd.endW, hn, hy]
 ·rcases hn : Dd.nnF n <;> rcases hy : Dd.sgnF y <;> simp [Dd.variationL, Dd.sgnW, Dd.nnW, Dd.endW, hn, hy]
theorem infoSt : (Tryz.prog.info? 62).map (fun i => (i.zero, i.size, i.bytes)) = some (some (.agg #[.string ⟨#[]⟩, .int .i64 0]), 2, 24) := by kernel_rfl
theorem infoVa : (Tryz.prog.info? 139).map (fun i => (i.zero, i.size, i.bytes)) = some (some (.agg #[.int .i64 0, .int .i64 0]), 2, 16) := by kernel_rfl
set_option maxHeartbeats 8000000 in
theorem readStation_any (B g m b : Nat) (f : Dd.Fd) (R : Nat → Prop) (v : Fv) (ws : List Cs.Bs) (V : World) (hm : m ≤ 1000000) (hE : Env V) (hz : Wz V b ws) (hF : Fo V B g m f R v) (hbR : ¬ R b) (hbg : g < b) :
  Calls Tryz.prog 94 #[.pointer (some ⟨b, 0, none⟩), .pointer (some ⟨g, 0, none⟩)] V (Fs2 (Dd.stationL f ws) B g m b R V) := by
 obtain ⟨i0, hi0, hz0, hz1, hz2⟩ := info_parts infoSt
 have h9 := hz.g9
 have HM := Lib.hid (Dd.stationM f ws)
 have HZ := Lib.hid hz
 have HF := Lib.hid hF
 have HE := Lib.hid hE
 have HB := Lib.hid hbR
 obtain ⟨RR, hRR⟩ : ∃ r, Dd.stationL f ws = r := ⟨_, rfl⟩
 rw [hRR] at HM ⊢
 clear hz hF hbR hRR hE
 go_enter Tryz.func94, Tryz.ntmps94
 go_wp2_with fail
 rcases hs : Dd.nameW ws with _ | ⟨x1, r1⟩
 ·have HX := Lib.hid (show RR.1 = 4 by rw [HM.out, hs])
  have HS := Lib.hid hs
  clear hs
  refine (wname_any b ws _ HZ.out).mono ?_
  intro e w1 he
  obtain ⟨rfl, hb⟩ := he.none_ HS.out
  clear he
  go_wp2_with fail
  exact ⟨rfl, Fs2.no HX.out (by decide) hb⟩
 have hnl : x1.length ≤ 1000000 := by
  rcases ws with _ | ⟨x, r'⟩
  ·cases hs
  ·rw [Dd.nameW] at hs
   split at hs
   ·simp only [Option.some.injEq, Prod.mk.injEq] at hs
    rw [← hs.1]
    exact HZ.out.hl x List.mem_cons_self
   ·cases hs
 have HNL := Lib.hid hnl
 clear hnl
 have HS := Lib.hid hs
 clear hs
 refine (wname_any b ws _ HZ.out).mono ?_
 intro e w1 he
 obtain ⟨rfl, hb, hz1'⟩ := he.some_ HS.out
 have HB1 := Lib.hid hb
 have HZ1 := Lib.hid hz1'
 have HE1 := Lib.hid (HE.out.but1 hb h9)
 have HF1 := Lib.hid (HF.out.keep hb (fun k hk => by rw [show k = b from hk]; exact HB.out))
 clear he hb hz1'
 simp only [sv_def]
 go_wp2_with fail
 rcases hs : Dd.nnW r1 with _ | ⟨x2, r2⟩
 ·have HX := Lib.hid (show RR.1 = 4 by rw [HM.out, HS.out]; simp only []; rw [hs])
  have HS2 := Lib.hid hs
  clear hs
  refine (number_any b r1 _ HE1.out HZ1.out).mono ?_
  intro e w2 he
  obtain ⟨rfl, hb⟩ := he.none_ HS2.out
  clear he
  go_wp2_with fail
  exact ⟨rfl, Fs2.no HX.out (by decide) (HB1.out.trans hb)⟩
 have HS2 := Lib.hid hs
 clear hs
 refine (number_any b r1 _ HE1.out HZ1.out).mono ?_
 intro e w2 he
 obtain ⟨rfl, hb, hz2'⟩ := he.some_ HS2.out
 have hbl := hz2'.lt
 have hbn := (Below.refl w2.heap.size w2).alloc (Nat.le_refl _) (.cells #[.string ⟨x1.toArray⟩, .int .i64 x2] 62)
 have HB2 := Lib.hid ((HB1.out.trans hb).trans (But.of hbn))
 have HZ2 := Lib.hid (hz2'.below hbn)
 have HF2 := Lib.hid ((HF1.out.keep hb (fun k hk => by rw [show k = b from hk]; exact HB.out)).keep (X := fun _ => False) (But.of hbn) (fun k hk => hk.elim))
 have HK2 := Lib.hid (Bk.new w2 62 #[.string ⟨x1.toArray⟩, .int .i64 x2])
 have hnb : ¬ w2.heap.size = b := by omega
 clear he hb hz2' hbl hbn
 simp only [zv]
 go_wp2_with fail
 rcases hs : Dd.endW r2 with _ | ⟨u, r3⟩
 ·have HX := Lib.hid (show RR.1 = 4 by rw [HM.out, HS.out]; simp only []; rw [HS2.out]; simp only []; rw [hs])
  have HS3 := Lib.hid hs
  clear hs
  refine (wend_any b r2 _ HZ2.out).mono ?_
  intro e w3 he
  obtain ⟨rfl, hb⟩ := he.none_ HS3.out
  clear he
  go_wp2_with fail
  exact ⟨rfl, Fs2.no HX.out (by decide) (HB2.out.trans hb)⟩
 have HX := Lib.hid (show RR = (0, { f with st := f.st ++ [(x1, x2)] }) by rw [HM.out, HS.out]; simp only []; rw [HS2.out]; simp only []; rw [hs])
 have HS3 := Lib.hid hs
 clear hs
 refine (wend_any b r2 _ HZ2.out).mono ?_
 intro e w3 he
 obtain ⟨rfl, hb, _⟩ := he.some_ HS3.out
 have HB3 := Lib.hid (HB2.out.trans hb)
 have hF3 := HF2.out.keep hb (fun k hk => by rw [show k = b from hk]; exact HB.out)
 have hk3 := hb.bk HK2.out hnb
 have HF3 := Lib.hid hF3
 have c1 := (hF3.k.cell 0).trans rfl
 have y0 := (hk3.cell 0).trans rfl
 have y1 := (hk3.cell 1).trans rfl
 have hl2 := hF3.l1
 have hle := hF3.le
 have ho := hF3.o1
 have hlt := hF3.k.lt
 have hgB := hF3.gB
 have HK3 := Lib.hid hF3.k
 have hcw : ∀ o, (w3.alloc o).cell? ⟨g, 0, none⟩ = some (.slice v.a1 f.st.length v.c1) := fun o => (World.cell?_of_block (Below.heap_alloc _ _ _ hlt)).trans c1
 have HNG := Lib.hid (show ¬ (Value.slice v.a1 f.st.length v.c1).ownBlock = some g from fun e => by have := own_low hF3.o1 g e; omega)
 clear he hb hF3 hk3
 simp only [uv, sl_def] at ho ⊢
 go_upto_region 2 with fail
 go_region_law (refine step_append_lies _ (by rfl) _ _ _ (by rfl) B 62 i0 _ 2 24 Tryz.underlying22 hi0 hz0 hz1 hz2 rfl (by omega) (.slice v.a1 f.st.length v.c1) f.st.length (scells f.st) (by rfl) ((ho.alloc _).drew) ⟨w3.heap.size, 0, none⟩ 1 1 [.string ⟨x1.toArray⟩, .int .i64 x2] (by rfl) (by rfl) (World.news_of_block (cs := #[.string ⟨x1.toArray⟩, .int .i64 x2]) (t := 62) (fr := (0, 0)) (World.alloc_heap_new w3 _)) (by simp [Value.oneCell']) (by omega) (by unfold maxLen; omega) (by omega) (by simp; omega) (w3.heap.size + 1) (by simp) ?_; intro gn cn w4 hown hgrow hat hlt4; have hk4 := (But.grown hgrow).bk ((HK3.out.alloc (.cells #[.string ⟨x1.toArray⟩, .int .i64 x2] 62)).drewB') HNG.out; have q1 := (hk4.cell 0).trans rfl; have q2 := hk4.frozen 0; have q3 := hk4.lt)
 all_goals
  obtain ⟨R', v', h1, h2, h3⟩ := HF3.out.more1 (n := (x1, x2)) HNL.out (((Below.refl w3.heap.size w3).alloc (Nat.le_refl _) (.cells #[.string ⟨x1.toArray⟩, .int .i64 x2] 62)).drew) hown hgrow (by rcases hat with e | e; exact .inl e; exact .inr (by omega))
  have H1 := Lib.hid h1
  have H2 := Lib.hid h2
  have H3 := Lib.hid h3
  clear h1 h2 h3 hk4 hown hgrow hat hlt4
  go_wp2_with fail
  go_end0
  have hb3 := HB3.out
  refine ⟨(hb3.mono (fun k h => .inl h)).trans (H2.out.mono (fun k h => .inr h)), .inl ⟨by rw [HX.out], rfl, R', v', by rw [HX.out]; exact H1.out, fun k hk => ?_⟩⟩
  rcases H3.out k hk with e | e
  ·exact .inl e
  ·exact .inr (Nat.le_trans hb3.size e)
set_option maxHeartbeats 8000000 in
theorem readVariation_any (B g m b : Nat) (f : Dd.Fd) (R : Nat → Prop) (v : Fv) (ws : List Cs.Bs) (V : World) (hm : m ≤ 1000000) (hE : Env V) (hz : Wz V b ws) (hF : Fo V B g m f R v) (hbR : ¬ R b) (hbg : g < b) :
  Calls Tryz.prog 97 #[.pointer (some ⟨b, 0, none⟩), .pointer (some ⟨g, 0, none⟩)] V (Fs2 (Dd.variationL f ws) B g m b R V) := by
 obtain ⟨i0, hi0, hz0, hz1, hz2⟩ := info_parts infoVa
 have h9 := hz.g9
 have HM := Lib.hid (Dd.variationM f ws)
 have HZ := Lib.hid hz
 have HF := Lib.hid hF
 have HE := Lib.hid hE
 have HB := Lib.hid hbR
 obtain ⟨RR, hRR⟩ : ∃ r, Dd.variationL f ws = r := ⟨_, rfl⟩
 rw [hRR] at HM ⊢
 clear hz hF hbR hRR hE
 go_enter Tryz.func97, Tryz.ntmps97
 go_wp2_with fail
 rcases hs : Dd.nnW ws with _ | ⟨x1, r1⟩
 ·have HX := Lib.hid (show RR.1 = 4 by rw [HM.out, hs])
  have HS := Lib.hid hs
  clear hs
  refine (number_any b ws _ HE.out HZ.out).mono ?_
  intro e w1 he
  obtain ⟨rfl, hb⟩ := he.none_ HS.out
  clear he
  go_wp2_with fail
  exact ⟨rfl, Fs2.no HX.out (by decide) hb⟩
 have HS := Lib.hid hs
 clear hs
 refine (number_any b ws _ HE.out HZ.out).mono ?_
 intro e w1 he
 obtain ⟨rfl, hb, hz1'⟩ := he.some_ HS.out
 have HB1 := Lib.hid hb
 have HZ1 := Lib.hid hz1'
 have HE1 := Lib.hid (HE.out.but1 hb h9)
 have HF1 := Lib.hid (HF.out.keep hb (fun k hk => by rw [show k = b from hk]; exact HB.out))
 clear he hb hz1'
 simp only [zv]
 go_wp2_with fail
 rcases hs : Dd.sgnW r1 with _ | ⟨x2, r2⟩
 ·have HX := Lib.hid (show RR.1 = 4 by rw [HM.out, HS.out]; simp only []; rw [hs])
  have HS2 := Lib.hid hs
  clear hs
  refine (signed_any b r1 _ HE1.out HZ1.out).mono ?_
  intro e w2 he
  obtain ⟨rfl, hb⟩ := he.none_ HS2.out
  clear he
  go_wp2_with fail
  exact ⟨rfl, Fs2.no HX.out (by decide) (HB1.out.trans hb)⟩
 have HS2 := Lib.hid hs
 clear hs
 refine (signed_any b r1 _ HE1.out HZ1.out).mono ?_
 intro e w2 he
 obtain ⟨rfl, hb, hz2'⟩ := he.some_ HS2.out
 have hbl := hz2'.lt
 have hbn := (Below.refl w2.heap.size w2).alloc (Nat.le_refl _) (.cells #[.int .i64 x1, .int .i64 x2] 139)
 have HB2 := Lib.hid ((HB1.out.trans hb).trans (But.of hbn))
 have HZ2 := Lib.hid (hz2'.below hbn)
 have HF2 := Lib.hid ((HF1.out.keep hb (fun k hk => by rw [show k = b from hk]; exact HB.out)).keep (X := fun _ => False) (But.of hbn) (fun k hk => hk.elim))
 have HK2 := Lib.hid (Bk.new w2 139 #[.int .i64 x1, .int .i64 x2])
 have hnb : ¬ w2.heap.size = b := by omega
 clear he hb hz2' hbl hbn
 simp only [zv]
 go_wp2_with fail
 rcases hs : Dd.endW r2 with _ | ⟨u, r3⟩
 ·have HX := Lib.hid (show RR.1 = 4 by rw [HM.out, HS.out]; simp only []; rw [HS2.out]; simp only []; rw [hs])
  have HS3 := Lib.hid hs
  clear hs
  refine (wend_any b r2 _ HZ2.out).mono ?_
  intro e w3 he
  obtain ⟨rfl, hb⟩ := he.none_ HS3.out
  clear he
  go_wp2_with fail
  exact ⟨rfl, Fs2.no HX.out (by decide) (HB2.out.trans hb)⟩
 have HX := Lib.hid (show RR = (0, { f with va := f.va ++ [(x1, x2)] }) by rw [HM.out, HS.out]; simp only []; rw [HS2.out]; simp only []; rw [hs])
 have HS3 := Lib.hid hs
 clear hs
 refine (wend_any b r2 _ HZ2.out).mono ?_
 intro e w3 he
 obtain ⟨rfl, hb, _⟩ := he.some_ HS3.out
 have HB3 := Lib.hid (HB2.out.trans hb)
 have hF3 := HF2.out.keep hb (fun k hk => by rw [show k = b from hk]; exact HB.out)
 have hk3 := hb.bk HK2.out hnb
 have HF3 := Lib.hid hF3
 have c1 := (hF3.k.cell 3).trans rfl
 have y0 := (hk3.cell 0).trans rfl
 have y1 := (hk3.cell 1).trans rfl
 have hl2 := hF3.l4
 have hle := hF3.le
 have ho := hF3.o4
 have hlt := hF3.k.lt
 have hgB := hF3.gB
 have HK3 := Lib.hid hF3.k
 have hcw : ∀ o, (w3.alloc o).cell? ⟨g, 3, none⟩ = some (.slice v.a4 f.va.length v.c4) := fun o => (World.cell?_of_block (Below.heap_alloc _ _ _ hlt)).trans c1
 have HNG := Lib.hid (show ¬ (Value.slice v.a4 f.va.length v.c4).ownBlock = some g from fun e => by have := own_low hF3.o4 g e; omega)
 clear he hb hF3 hk3
 simp only [uv, sl_def] at ho ⊢
 go_upto_region 2 with fail
 go_region_law (refine step_append_lies _ (by rfl) _ _ _ (by rfl) B 139 i0 _ 2 16 Tryz.underlying25 hi0 hz0 hz1 hz2 rfl (by omega) (.slice v.a4 f.va.length v.c4) f.va.length (vcells f.va) (by rfl) ((ho.alloc _).drew) ⟨w3.heap.size, 0, none⟩ 1 1 [.int .i64 x1, .int .i64 x2] (by rfl) (by rfl) (World.news_of_block (cs := #[.int .i64 x1, .int .i64 x2]) (t := 139) (fr := (0, 0)) (World.alloc_heap_new w3 _)) (by simp [Value.oneCell']) (by omega) (by unfold maxLen; omega) (by omega) (by simp; omega) (w3.heap.size + 1) (by simp) ?_; intro gn cn w4 hown hgrow hat hlt4; have hk4 := (But.grown hgrow).bk ((HK3.out.alloc (.cells #[.int .i64 x1, .int .i64 x2] 139)).drewB') HNG.out; have q1 := (hk4.cell 3).trans rfl; have q2 := hk4.frozen 3; have q3 := hk4.lt)
 all_goals
  obtain ⟨R', v', h1, h2, h3⟩ := HF3.out.more4 (n := (x1, x2)) (((Below.refl w3.heap.size w3).alloc (Nat.le_refl _) (.cells #[.int .i64 x1, .int .i64 x2] 139)).drew) hown hgrow (by rcases hat with e | e; exact .inl e; exact .inr (by omega))
  have H1 := Lib.hid h1
  have H2 := Lib.hid h2
  have H3 := Lib.hid h3
  clear h1 h2 h3 hk4 hown hgrow hat hlt4
  go_wp2_with fail
  go_end0
  have hb3 := HB3.out
  refine ⟨(hb3.mono (fun k h => .inl h)).trans (H2.out.mono (fun k h => .inr h)), .inl ⟨by rw [HX.out], rfl, R', v', by rw [HX.out]; exact H1.out, fun k hk => ?_⟩⟩
  rcases H3.out k hk with e | e
  ·exact .inl e
  ·exact .inr (Nat.le_trans hb3.size e)
end Go.Proofs.YtcbeefbefapicaaGreatDoor
