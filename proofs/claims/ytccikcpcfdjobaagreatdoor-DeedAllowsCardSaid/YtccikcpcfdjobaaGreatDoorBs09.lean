/-
  What the claim needs: contracts.
-/
import Derived.Test.YtccikcpcfdjobaaGreatDoorBs06
set_option linter.unusedVariables false
set_option linter.unusedSimpArgs false
set_option maxHeartbeats 8000000
set_option maxRecDepth 100000
namespace Go.Proofs.YtccikcpcfdjobaaGreatDoor
section
open Go.RowKit
theorem y57 (x : Cs.Bs × Int) (w : World) : Calls Tryz.prog 75 #[.agg #[.string ⟨x.1.toArray⟩, .int .i64 x.2]] w fun e w' => e = .returned (.string ⟨x.1.toArray⟩) /\ Below w.heap.size w w' := by
 obtain ⟨n, z⟩ := x;dsimp only;go_enter Tryz.func75, Tryz.ntmps75;go_wp2_with fail;go_ret;exact ⟨rfl, (Below.refl _ _).alloc (Nat.le_refl _) _⟩
theorem y8A (x : Cs.Bs × Int) (hx : x.1.length <= 1000000) (g : Nat) (w : World) (hc : w.cell? ⟨g, 0, none⟩ = some (.func (.func 75) #[] #[])) (hg : g < w.heap.size) :
  Calls Tryz.prog 129 #[.agg #[.string ⟨x.1.toArray⟩, .int .i64 x.2], .pointer (some ⟨g, 0, none⟩)] w fun e w' => e = .returned (.bool (!Dd.nameF x.1)) /\ Below w.heap.size w w' := by
 have eg := enters_of Tryz.func75 (by kernel_rfl) rfl;have HO := jQ fun W => y57 x W;have hN := fun W => y1u x.1 hx W;rw [y06] at hN;obtain ⟨z, hz⟩ := zE (Dd.nameF x.1);rw [hz] at hN ⊢;have HN := jQ hN;clear hN hz;go_enter Tryz.func129, Tryz.ntmps129;go_wp2_with fail;refine (HO.o _).mono ?_;rintro e w1 ⟨rfl, hb⟩;have HB := jQ (((Below.refl w.heap.size w).alloc (Nat.le_refl _) _).trans (hb.mono (by simp)));clear hb;go_wp2_with fail;refine (HN.o _).mono ?_;rintro e w2 ⟨rfl, hb⟩;have HB2 := jQ (HB.o.trans (hb.mono HB.o.size));clear hb;go_wp2_with fail;go_ret;exact ⟨rfl, HB2.o⟩
theorem y9D (A : Option Addr) (c : Nat) (ys : List (Cs.Bs × Int)) (w : World) (hR : Rd w w.heap.size 2 A ys.length (scells ys)) (hl : ys.length <= 1000000) (hn : ∀ x ∈ ys, x.1.length <= 1000000) :
  Calls Tryz.prog 74 #[.slice A ys.length c, .func (.func 75) #[] #[]] w fun e w' => e = .returned (.bool ((ys.map (·.1)).all Dd.nameF)) /\ Below w.heap.size w w' := by
 have hmf := zM;have kb := Bk.new w 105 #[.func (.func 75) #[] #[]];have hB := (Below.refl w.heap.size w).alloc (Nat.le_refl _) (.cells #[.func (.func 75) #[] #[]] 105);have hcon := y9W 129 #[.pointer (some ⟨w.heap.size, 0, none⟩)] (fun x => !Dd.nameF x.1) A c ys _ ((hR.below hB (Nat.le_refl _)).more hB.size) hl (enters_of Tryz.func129 (by kernel_rfl) rfl)
  (fun x hx W hb => y8A x (hn x hx) w.heap.size W (((kb.below hb kb.lt).cell 0).trans rfl) (kb.below hb kb.lt).lt)
 have hres : ((ys.map (·.1)).all Dd.nameF) = !(ys.any fun x => !Dd.nameF x.1) := by
  rw [List.any_eq_not_all_not];simp [Function.comp_def]
 rw [hres];obtain ⟨z, hz⟩ := zE ((ys.any fun x => !Dd.nameF x.1));rw [hz] at hcon ⊢;have HC := jQ hcon;have HB := jQ hB;clear hcon kb hB hz hres hR hl hn;go_enter Tryz.func74, Tryz.ntmps74;go_wp2_with fail;refine HC.o.mono ?_;rintro e w1 ⟨rfl, hb⟩;have HB2 := jQ (HB.o.trans (hb.mono HB.o.size));clear hb;go_wp2_with fail;go_ret;exact ⟨rfl, HB2.o⟩
theorem y8o (x : Cs.Bs × Int) (s : Cs.Bs) (g g2 : Nat) (w : World) (hc : w.cell? ⟨g, 0, none⟩ = some (.func (.func 75) #[] #[])) (hg : g < w.heap.size) (hc2 : w.cell? ⟨g2, 0, none⟩ = some (.string ⟨s.toArray⟩)) (hg2 : g2 < w.heap.size) :
  Calls Tryz.prog 187 #[.agg #[.string ⟨x.1.toArray⟩, .int .i64 x.2], .pointer (some ⟨g, 0, none⟩), .pointer (some ⟨g2, 0, none⟩)] w fun e w' => e = .returned (.bool (decide (x.1 = s))) /\ Below w.heap.size w w' := by
 have eg := enters_of Tryz.func75 (by kernel_rfl) rfl;have HO := jQ fun W => y57 x W;have hcc := fun (W : World) (h : Below w.heap.size w W) => (h.cell (p := ⟨g2, 0, none⟩) hg2).trans hc2;have hcg := fun (W : World) (h : Below w.heap.size w W) => (h.cell (p := ⟨g, 0, none⟩) hg).trans hc;have hB := (Below.refl w.heap.size w).alloc (Nat.le_refl _) (.cells #[.string ⟨x.1.toArray⟩, .int .i64 x.2] 66);have kx := Bk.new w 66 #[.string ⟨x.1.toArray⟩, .int .i64 x.2];obtain ⟨W, hW⟩ := zE (w.alloc (.cells #[.string ⟨x.1.toArray⟩, .int .i64 x.2] 66));obtain ⟨gx, hgx⟩ := zE (w.heap.size);have HSB := jQ (show ∀ V, Below W.heap.size W V -> (V.cell? ⟨g, 0, none⟩ = some (.func (.func 75) #[] #[]) /\ V.cell? ⟨g2, 0, none⟩ = some (.string ⟨s.toArray⟩)) /\ (V.cell? ⟨w.heap.size, 0, none⟩ = some (.string ⟨x.1.toArray⟩) /\ V.cell? ⟨w.heap.size, 1, none⟩ = some (.int .i64 x.2)) from fun V h => by
  subst hW;have h2 : Below w.heap.size w V := hB.trans (h.mono hB.size);exact ⟨⟨hcg V h2, hcc V h2⟩, ((kx.below h kx.lt).cell 0).trans rfl, ((kx.below h kx.lt).cell 1).trans rfl⟩)
 rw [hgx] at HSB;have HB := jQ (hW ▸ hB);have hbZ : Below W.heap.size W W.drew := (Below.refl _ _).drew;clear hcc hcg hB hc hc2 kx;go_enter Tryz.func187, Tryz.ntmps187;go_upto_region 1 with fail
 try rw [hW]
 try rw [hgx]
 go_region_held3 (fun V => (V.cell? ⟨g, 0, none⟩ = some (.func (.func 75) #[] #[]) /\ V.cell? ⟨g2, 0, none⟩ = some (.string ⟨s.toArray⟩)) /\ (V.cell? ⟨gx, 0, none⟩ = some (.string ⟨x.1.toArray⟩) /\ V.cell? ⟨gx, 1, none⟩ = some (.int .i64 x.2)))
  (first
   | ((try dsimp only); first | (with_reducible exact HSB.o _ hbC) | (with_reducible exact HSB.o _ hbZ)))
  (first
   | (go_at_call 75; refine (HO.o _).mono ?_; rintro e wC ⟨rfl, hbc⟩; have hbC : Below W.heap.size W wC := hbZ.trans (hbc.mono hbZ.size)))
 all_goals
  go_wp2_with fail;go_ret;refine ⟨y00 ?_, HB.o.trans (hbC.mono HB.o.size)⟩;rw [Bool.eq_iff_iff];simp
theorem y58 (x : Cs.Bs) (w : World) : Calls Tryz.prog 77 #[.string ⟨x.toArray⟩] w fun e w' => e = .returned (.string ⟨x.toArray⟩) /\ Below w.heap.size w w' := by
 go_enter Tryz.func77, Tryz.ntmps77;go_wp2_with fail;go_ret;exact ⟨rfl, Below.refl _ _⟩
theorem y8B (x : Cs.Bs) (hx : x.length <= 1000000) (g : Nat) (w : World) (hc : w.cell? ⟨g, 0, none⟩ = some (.func (.func 77) #[] #[])) (hg : g < w.heap.size) :
  Calls Tryz.prog 132 #[.string ⟨x.toArray⟩, .pointer (some ⟨g, 0, none⟩)] w fun e w' => e = .returned (.bool (!Dd.nameF x)) /\ Below w.heap.size w w' := by
 have eg := enters_of Tryz.func77 (by kernel_rfl) rfl;have HO := jQ fun W => y58 x W;have hN := fun W => y1u x hx W;rw [y06] at hN;obtain ⟨z, hz⟩ := zE (Dd.nameF x);rw [hz] at hN ⊢;have HN := jQ hN;clear hN hz;go_enter Tryz.func132, Tryz.ntmps132;go_wp2_with fail;refine (HO.o _).mono ?_;rintro e w1 ⟨rfl, hb⟩;have HB := jQ hb;clear hb;go_wp2_with fail;refine (HN.o _).mono ?_;rintro e w2 ⟨rfl, hb⟩;have HB2 := jQ (HB.o.trans (hb.mono HB.o.size));clear hb;go_wp2_with fail;go_ret;exact ⟨rfl, HB2.o⟩
theorem y9E (A : Option Addr) (c : Nat) (ys : List (Cs.Bs)) (w : World) (hR : Rd w w.heap.size 1 A ys.length (wcells ys)) (hl : ys.length <= 1000000) (hn : ∀ x ∈ ys, x.length <= 1000000) :
  Calls Tryz.prog 76 #[.slice A ys.length c, .func (.func 77) #[] #[]] w fun e w' => e = .returned (.bool ((ys).all Dd.nameF)) /\ Below w.heap.size w w' := by
 have hmf := zM;have kb := Bk.new w 107 #[.func (.func 77) #[] #[]];have hB := (Below.refl w.heap.size w).alloc (Nat.le_refl _) (.cells #[.func (.func 77) #[] #[]] 107);have hcon := y9X 132 #[.pointer (some ⟨w.heap.size, 0, none⟩)] (fun x => !Dd.nameF x) A c ys _ ((hR.below hB (Nat.le_refl _)).more hB.size) hl (enters_of Tryz.func132 (by kernel_rfl) rfl)
  (fun x hx W hb => y8B x (hn x hx) w.heap.size W (((kb.below hb kb.lt).cell 0).trans rfl) (kb.below hb kb.lt).lt)
 have hres : ((ys).all Dd.nameF) = !(ys.any fun x => !Dd.nameF x) := by
  rw [List.any_eq_not_all_not];simp
 rw [hres];obtain ⟨z, hz⟩ := zE ((ys.any fun x => !Dd.nameF x));rw [hz] at hcon ⊢;have HC := jQ hcon;have HB := jQ hB;clear hcon kb hB hz hres hR hl hn;go_enter Tryz.func76, Tryz.ntmps76;go_wp2_with fail;refine HC.o.mono ?_;rintro e w1 ⟨rfl, hb⟩;have HB2 := jQ (HB.o.trans (hb.mono HB.o.size));clear hb;go_wp2_with fail;go_ret;exact ⟨rfl, HB2.o⟩
theorem y8p (x : Cs.Bs) (s : Cs.Bs) (g g2 : Nat) (w : World) (hc : w.cell? ⟨g, 0, none⟩ = some (.func (.func 77) #[] #[])) (hg : g < w.heap.size) (hc2 : w.cell? ⟨g2, 0, none⟩ = some (.string ⟨s.toArray⟩)) (hg2 : g2 < w.heap.size) :
  Calls Tryz.prog 188 #[.string ⟨x.toArray⟩, .pointer (some ⟨g, 0, none⟩), .pointer (some ⟨g2, 0, none⟩)] w fun e w' => e = .returned (.bool (decide (x = s))) /\ Below w.heap.size w w' := by
 have eg := enters_of Tryz.func77 (by kernel_rfl) rfl;have HO := jQ fun W => y58 x W;have hcc := fun (W : World) (h : Below w.heap.size w W) => (h.cell (p := ⟨g2, 0, none⟩) hg2).trans hc2;have hcg := fun (W : World) (h : Below w.heap.size w W) => (h.cell (p := ⟨g, 0, none⟩) hg).trans hc;have hB := Below.refl w.heap.size w
 
 
 
 have HSB := jQ (show ∀ V, Below w.heap.size w V -> V.cell? ⟨g, 0, none⟩ = some (.func (.func 77) #[] #[]) /\ V.cell? ⟨g2, 0, none⟩ = some (.string ⟨s.toArray⟩) from fun V h => by
  
  have h2 : Below w.heap.size w V := hB.trans (h.mono hB.size);exact ⟨hcg V h2, hcc V h2⟩)
 
 have HB := jQ (hB);have hbZ : Below w.heap.size w w.drew := (Below.refl _ _).drew;clear hcc hcg hB hc hc2 ;go_enter Tryz.func188, Tryz.ntmps188;go_upto_region 1 with fail
 
 
 go_region_held3 (fun V => V.cell? ⟨g, 0, none⟩ = some (.func (.func 77) #[] #[]) /\ V.cell? ⟨g2, 0, none⟩ = some (.string ⟨s.toArray⟩))
  (first
   | ((try dsimp only); first | (with_reducible exact HSB.o _ hbC) | (with_reducible exact HSB.o _ hbZ)))
  (first
   | (go_at_call 77; refine (HO.o _).mono ?_; rintro e wC ⟨rfl, hbc⟩; have hbC : Below w.heap.size w wC := hbZ.trans (hbc.mono hbZ.size)))
 all_goals
  go_wp2_with fail;go_ret;refine ⟨y00 ?_, HB.o.trans (hbC.mono HB.o.size)⟩;rw [Bool.eq_iff_iff];simp
theorem y56 (x : Dd.Pa) (w : World) : Calls Tryz.prog 79 #[.agg #[.string ⟨x.name.toArray⟩, .int .i64 x.south, .int .i64 x.west, .int .i64 x.east]] w fun e w' => e = .returned (.string ⟨x.name.toArray⟩) /\ Below w.heap.size w w' := by
 obtain ⟨n, z1, z2, z3⟩ := x;dsimp only;go_enter Tryz.func79, Tryz.ntmps79;go_wp2_with fail;go_ret;exact ⟨rfl, (Below.refl _ _).alloc (Nat.le_refl _) _⟩
theorem y89 (x : Dd.Pa) (hx : x.name.length <= 1000000) (g : Nat) (w : World) (hc : w.cell? ⟨g, 0, none⟩ = some (.func (.func 79) #[] #[])) (hg : g < w.heap.size) :
  Calls Tryz.prog 134 #[.agg #[.string ⟨x.name.toArray⟩, .int .i64 x.south, .int .i64 x.west, .int .i64 x.east], .pointer (some ⟨g, 0, none⟩)] w fun e w' => e = .returned (.bool (!Dd.nameF x.name)) /\ Below w.heap.size w w' := by
 have eg := enters_of Tryz.func79 (by kernel_rfl) rfl;have HO := jQ fun W => y56 x W;have hN := fun W => y1u x.name hx W;rw [y06] at hN;obtain ⟨z, hz⟩ := zE (Dd.nameF x.name);rw [hz] at hN ⊢;have HN := jQ hN;clear hN hz;go_enter Tryz.func134, Tryz.ntmps134;go_wp2_with fail;refine (HO.o _).mono ?_;rintro e w1 ⟨rfl, hb⟩;have HB := jQ (((Below.refl w.heap.size w).alloc (Nat.le_refl _) _).trans (hb.mono (by simp)));clear hb;go_wp2_with fail;refine (HN.o _).mono ?_;rintro e w2 ⟨rfl, hb⟩;have HB2 := jQ (HB.o.trans (hb.mono HB.o.size));clear hb;go_wp2_with fail;go_ret;exact ⟨rfl, HB2.o⟩
theorem y9C (A : Option Addr) (c : Nat) (ys : List (Dd.Pa)) (w : World) (hR : Rd w w.heap.size 4 A ys.length (pcells ys)) (hl : ys.length <= 1000000) (hn : ∀ x ∈ ys, x.name.length <= 1000000) :
  Calls Tryz.prog 78 #[.slice A ys.length c, .func (.func 79) #[] #[]] w fun e w' => e = .returned (.bool ((ys.map (·.name)).all Dd.nameF)) /\ Below w.heap.size w w' := by
 have hmf := zM;have kb := Bk.new w 109 #[.func (.func 79) #[] #[]];have hB := (Below.refl w.heap.size w).alloc (Nat.le_refl _) (.cells #[.func (.func 79) #[] #[]] 109);have hcon := y5d 134 #[.pointer (some ⟨w.heap.size, 0, none⟩)] (fun x => !Dd.nameF x.name) A c ys _ ((hR.below hB (Nat.le_refl _)).more hB.size) hl (enters_of Tryz.func134 (by kernel_rfl) rfl)
  (fun x hx W hb => y89 x (hn x hx) w.heap.size W (((kb.below hb kb.lt).cell 0).trans rfl) (kb.below hb kb.lt).lt)
 have hres : ((ys.map (·.name)).all Dd.nameF) = !(ys.any fun x => !Dd.nameF x.name) := by
  rw [List.any_eq_not_all_not];simp [Function.comp_def]
 rw [hres];obtain ⟨z, hz⟩ := zE ((ys.any fun x => !Dd.nameF x.name));rw [hz] at hcon ⊢;have HC := jQ hcon;have HB := jQ hB;clear hcon kb hB hz hres hR hl hn;go_enter Tryz.func78, Tryz.ntmps78;go_wp2_with fail;refine HC.o.mono ?_;rintro e w1 ⟨rfl, hb⟩;have HB2 := jQ (HB.o.trans (hb.mono HB.o.size));clear hb;go_wp2_with fail;go_ret;exact ⟨rfl, HB2.o⟩
theorem y8n (x : Dd.Pa) (s : Cs.Bs) (g g2 : Nat) (w : World) (hc : w.cell? ⟨g, 0, none⟩ = some (.func (.func 79) #[] #[])) (hg : g < w.heap.size) (hc2 : w.cell? ⟨g2, 0, none⟩ = some (.string ⟨s.toArray⟩)) (hg2 : g2 < w.heap.size) :
  Calls Tryz.prog 189 #[.agg #[.string ⟨x.name.toArray⟩, .int .i64 x.south, .int .i64 x.west, .int .i64 x.east], .pointer (some ⟨g, 0, none⟩), .pointer (some ⟨g2, 0, none⟩)] w fun e w' => e = .returned (.bool (decide (x.name = s))) /\ Below w.heap.size w w' := by
 have eg := enters_of Tryz.func79 (by kernel_rfl) rfl;have HO := jQ fun W => y56 x W;have hcc := fun (W : World) (h : Below w.heap.size w W) => (h.cell (p := ⟨g2, 0, none⟩) hg2).trans hc2;have hcg := fun (W : World) (h : Below w.heap.size w W) => (h.cell (p := ⟨g, 0, none⟩) hg).trans hc;have hB := (Below.refl w.heap.size w).alloc (Nat.le_refl _) (.cells #[.string ⟨x.name.toArray⟩, .int .i64 x.south, .int .i64 x.west, .int .i64 x.east] 68);have kx := Bk.new w 68 #[.string ⟨x.name.toArray⟩, .int .i64 x.south, .int .i64 x.west, .int .i64 x.east];obtain ⟨W, hW⟩ := zE (w.alloc (.cells #[.string ⟨x.name.toArray⟩, .int .i64 x.south, .int .i64 x.west, .int .i64 x.east] 68));obtain ⟨gx, hgx⟩ := zE (w.heap.size);have HSB := jQ (show ∀ V, Below W.heap.size W V -> (V.cell? ⟨g, 0, none⟩ = some (.func (.func 79) #[] #[]) /\ V.cell? ⟨g2, 0, none⟩ = some (.string ⟨s.toArray⟩)) /\ (V.cell? ⟨w.heap.size, 0, none⟩ = some (.string ⟨x.name.toArray⟩) /\ V.cell? ⟨w.heap.size, 1, none⟩ = some (.int .i64 x.south)) /\ (V.cell? ⟨w.heap.size, 2, none⟩ = some (.int .i64 x.west) /\ V.cell? ⟨w.heap.size, 3, none⟩ = some (.int .i64 x.east)) from fun V h => by
  subst hW;have h2 : Below w.heap.size w V := hB.trans (h.mono hB.size);exact ⟨⟨hcg V h2, hcc V h2⟩, ⟨((kx.below h kx.lt).cell 0).trans rfl, ((kx.below h kx.lt).cell 1).trans rfl⟩, ((kx.below h kx.lt).cell 2).trans rfl, ((kx.below h kx.lt).cell 3).trans rfl⟩)
 rw [hgx] at HSB;have HB := jQ (hW ▸ hB);have hbZ : Below W.heap.size W W.drew := (Below.refl _ _).drew;clear hcc hcg hB hc hc2 kx;go_enter Tryz.func189, Tryz.ntmps189;go_upto_region 1 with fail
 try rw [hW]
 try rw [hgx]
 go_region_held3 (fun V => (V.cell? ⟨g, 0, none⟩ = some (.func (.func 79) #[] #[]) /\ V.cell? ⟨g2, 0, none⟩ = some (.string ⟨s.toArray⟩)) /\ (V.cell? ⟨gx, 0, none⟩ = some (.string ⟨x.name.toArray⟩) /\ V.cell? ⟨gx, 1, none⟩ = some (.int .i64 x.south)) /\ (V.cell? ⟨gx, 2, none⟩ = some (.int .i64 x.west) /\ V.cell? ⟨gx, 3, none⟩ = some (.int .i64 x.east)))
  (first
   | ((try dsimp only); first | (with_reducible exact HSB.o _ hbC) | (with_reducible exact HSB.o _ hbZ)))
  (first
   | (go_at_call 79; refine (HO.o _).mono ?_; rintro e wC ⟨rfl, hbc⟩; have hbC : Below W.heap.size W wC := hbZ.trans (hbc.mono hbZ.size)))
 all_goals
  go_wp2_with fail;go_ret;refine ⟨y00 ?_, HB.o.trans (hbC.mono HB.o.size)⟩;rw [Bool.eq_iff_iff];simp
theorem y5w (A : Option Addr) (c : Nat) (ys : List (Cs.Bs × Int)) (s : Cs.Bs) (w : World) (hR : Rd w w.heap.size 2 A ys.length (scells ys)) (hl : ys.length <= 1000000) :
  Calls Tryz.prog 135 #[.slice A ys.length c, .string ⟨s.toArray⟩, .func (.func 75) #[] #[]] w fun e w' => e = .returned (.int .i64 (Dd.idx (ys.map (·.1)) s)) /\ Below w.heap.size w w' := by
 have hmf := zM;have kn := (Bk.new w 9 #[.string ⟨s.toArray⟩]).alloc (.cells #[.func (.func 75) #[] #[]] 105);have ko := Bk.new (w.alloc (.cells #[.string ⟨s.toArray⟩] 9)) 105 #[.func (.func 75) #[] #[]];rw [World.size_alloc] at ko;have hB := ((Below.refl w.heap.size w).alloc (Nat.le_refl _) (.cells #[.string ⟨s.toArray⟩] 9)).alloc (by simp) (.cells #[.func (.func 75) #[] #[]] 105);have hix := y5o 187 #[.pointer (some ⟨w.heap.size + 1, 0, none⟩), .pointer (some ⟨w.heap.size, 0, none⟩)] (fun x => decide (x.1 = s)) A c ys _ ((hR.below hB (Nat.le_refl _)).more hB.size) hl (enters_of Tryz.func187 (by kernel_rfl) rfl)
  (fun x hx W hb => y8o x s (w.heap.size + 1) w.heap.size W (((ko.below hb ko.lt).cell 0).trans rfl) (ko.below hb ko.lt).lt (((kn.below hb kn.lt).cell 0).trans rfl) (kn.below hb kn.lt).lt)
 have hres : Dd.idx (ys.map (·.1)) s = Dd.idxP (fun x => decide (x.1 = s)) ys 0 := Dd.y4x _ _ ys 0;rw [hres];obtain ⟨z, hz⟩ := zE (Dd.idxP (fun x : Cs.Bs × Int => decide (x.1 = s)) ys 0);rw [hz] at hix ⊢;have HC := jQ hix;have HB := jQ hB;clear hix kn ko hB hz hres hR hl;go_enter Tryz.func135, Tryz.ntmps135;go_wp2_with fail;refine HC.o.mono ?_;rintro e w1 ⟨rfl, hb⟩;have HB2 := jQ (HB.o.trans (hb.mono HB.o.size));clear hb;go_wp2_with fail;go_ret;exact ⟨rfl, HB2.o⟩
theorem y5x (A : Option Addr) (c : Nat) (ys : List (Cs.Bs)) (s : Cs.Bs) (w : World) (hR : Rd w w.heap.size 1 A ys.length (wcells ys)) (hl : ys.length <= 1000000) :
  Calls Tryz.prog 136 #[.slice A ys.length c, .string ⟨s.toArray⟩, .func (.func 77) #[] #[]] w fun e w' => e = .returned (.int .i64 (Dd.idx (ys) s)) /\ Below w.heap.size w w' := by
 have hmf := zM;have kn := (Bk.new w 9 #[.string ⟨s.toArray⟩]).alloc (.cells #[.func (.func 77) #[] #[]] 107);have ko := Bk.new (w.alloc (.cells #[.string ⟨s.toArray⟩] 9)) 107 #[.func (.func 77) #[] #[]];rw [World.size_alloc] at ko;have hB := ((Below.refl w.heap.size w).alloc (Nat.le_refl _) (.cells #[.string ⟨s.toArray⟩] 9)).alloc (by simp) (.cells #[.func (.func 77) #[] #[]] 107);have hix := y5p 188 #[.pointer (some ⟨w.heap.size + 1, 0, none⟩), .pointer (some ⟨w.heap.size, 0, none⟩)] (fun x => decide (x = s)) A c ys _ ((hR.below hB (Nat.le_refl _)).more hB.size) hl (enters_of Tryz.func188 (by kernel_rfl) rfl)
  (fun x hx W hb => y8p x s (w.heap.size + 1) w.heap.size W (((ko.below hb ko.lt).cell 0).trans rfl) (ko.below hb ko.lt).lt (((kn.below hb kn.lt).cell 0).trans rfl) (kn.below hb kn.lt).lt)
 have hres : Dd.idx (ys) s = Dd.idxP (fun x => decide (x = s)) ys 0 := rfl;rw [hres];obtain ⟨z, hz⟩ := zE (Dd.idxP (fun x : Cs.Bs => decide (x = s)) ys 0);rw [hz] at hix ⊢;have HC := jQ hix;have HB := jQ hB;clear hix kn ko hB hz hres hR hl;go_enter Tryz.func136, Tryz.ntmps136;go_wp2_with fail;refine HC.o.mono ?_;rintro e w1 ⟨rfl, hb⟩;have HB2 := jQ (HB.o.trans (hb.mono HB.o.size));clear hb;go_wp2_with fail;go_ret;exact ⟨rfl, HB2.o⟩
theorem yAK (A : Option Addr) (c : Nat) (ys : List (Dd.Pa)) (s : Cs.Bs) (w : World) (hR : Rd w w.heap.size 4 A ys.length (pcells ys)) (hl : ys.length <= 1000000) :
  Calls Tryz.prog 137 #[.slice A ys.length c, .string ⟨s.toArray⟩, .func (.func 79) #[] #[]] w fun e w' => e = .returned (.int .i64 (Dd.idx (ys.map (·.name)) s)) /\ Below w.heap.size w w' := by
 have hmf := zM;have kn := (Bk.new w 9 #[.string ⟨s.toArray⟩]).alloc (.cells #[.func (.func 79) #[] #[]] 109);have ko := Bk.new (w.alloc (.cells #[.string ⟨s.toArray⟩] 9)) 109 #[.func (.func 79) #[] #[]];rw [World.size_alloc] at ko;have hB := ((Below.refl w.heap.size w).alloc (Nat.le_refl _) (.cells #[.string ⟨s.toArray⟩] 9)).alloc (by simp) (.cells #[.func (.func 79) #[] #[]] 109);have hix := y3J 189 #[.pointer (some ⟨w.heap.size + 1, 0, none⟩), .pointer (some ⟨w.heap.size, 0, none⟩)] (fun x => decide (x.name = s)) A c ys _ ((hR.below hB (Nat.le_refl _)).more hB.size) hl (enters_of Tryz.func189 (by kernel_rfl) rfl)
  (fun x hx W hb => y8n x s (w.heap.size + 1) w.heap.size W (((ko.below hb ko.lt).cell 0).trans rfl) (ko.below hb ko.lt).lt (((kn.below hb kn.lt).cell 0).trans rfl) (kn.below hb kn.lt).lt)
 have hres : Dd.idx (ys.map (·.name)) s = Dd.idxP (fun x => decide (x.name = s)) ys 0 := Dd.y4x _ _ ys 0;rw [hres];obtain ⟨z, hz⟩ := zE (Dd.idxP (fun x : Dd.Pa => decide (x.name = s)) ys 0);rw [hz] at hix ⊢;have HC := jQ hix;have HB := jQ hB;clear hix kn ko hB hz hres hR hl;go_enter Tryz.func137, Tryz.ntmps137;go_wp2_with fail;refine HC.o.mono ?_;rintro e w1 ⟨rfl, hb⟩;have HB2 := jQ (HB.o.trans (hb.mono HB.o.size));clear hb;go_wp2_with fail;go_ret;exact ⟨rfl, HB2.o⟩
theorem y9m {α : Type} {cell : α -> List Value} {n : Nat} (hc : ∀ a, (cell a).length = n) (ys : List α) (k : Nat) (hk : k <= ys.length) : (ys.take k).flatMap cell = (ys.flatMap cell).take (k * n) := by
  induction k generalizing ys with
  | zero => simp
  | succ k ih =>
    cases ys with
    | nil => simp at hk
    | cons y t =>
      have h1 : (cell y).take (n + k * n) = cell y := List.take_of_length_le (by rw [hc]; omega);have h2 : n + k * n - n = k * n := by omega
      rw [List.take_succ_cons, List.flatMap_cons, List.flatMap_cons, ih t (by simpa using hk), Nat.succ_mul, Nat.add_comm, List.take_append, hc, h1, h2]
theorem Rd.take {w : World} {B n : Nat} {A : Option Addr} {α : Type} {cell : α -> List Value} {ys : List α} (h : Rd w B n A ys.length (ys.flatMap cell)) (hc : ∀ a, (cell a).length = n) {k : Nat} (hk : k <= ys.length) :
  Rd w B n A (ys.take k).length ((ys.take k).flatMap cell) := by
 have hl : (ys.take k).length = k := by rw [List.length_take]; omega
 refine ⟨y1f hc _, fun hp => ?_⟩;rw [hl] at hp ⊢;obtain ⟨b, off, e, hb, hcell⟩ := h.2 (by omega);refine ⟨b, off, e, hb, fun j hj => ?_⟩;have := Nat.mul_le_mul_right n hk;rw [hcell j (by omega), y9m hc ys k hk, List.getElem?_take, if_pos hj]
theorem y7X (l : List Cs.Bs) : wcells l = l.flatMap fun x => [sv x] := by
 unfold wcells
 induction l with
 | nil => rfl
 | cons x r ih => rw [List.map_cons, List.flatMap_cons, ih]; rfl
theorem Rd.takeSt {w : World} {B : Nat} {A : Option Addr} {ys : List (Cs.Bs × Int)} (h : Rd w B 2 A ys.length (scells ys)) {k : Nat} (hk : k <= ys.length) : Rd w B 2 A (ys.take k).length (scells (ys.take k)) := Rd.take (cell := scell) h y6S hk
theorem Rd.takePa {w : World} {B : Nat} {A : Option Addr} {ys : List Dd.Pa} (h : Rd w B 4 A ys.length (pcells ys)) {k : Nat} (hk : k <= ys.length) : Rd w B 4 A (ys.take k).length (pcells (ys.take k)) := Rd.take (cell := pcell) h y68 hk
theorem Rd.takeTx {w : World} {B : Nat} {A : Option Addr} {ys : List Cs.Bs} (h : Rd w B 1 A ys.length (wcells ys)) {k : Nat} (hk : k <= ys.length) : Rd w B 1 A (ys.take k).length (wcells (ys.take k)) := by
 rw [y7X] at h ⊢;exact Rd.take (cell := fun x => [sv x]) h (fun _ => rfl) hk
theorem y8V (A : Option Addr) (c : Nat) (ys : List (Cs.Bs × Int)) (w : World) (hR : Rd w w.heap.size 2 A ys.length (scells ys)) (hl : ys.length <= 1000000) (hcap : ys.length <= c) :
  Calls Tryz.prog 80 #[.slice A ys.length c, .func (.func 75) #[] #[]] w fun e w' => e = .returned (.bool (Dd.dist (ys.map (·.1)))) /\ Below w.heap.size w w' := by
 have eg := enters_of Tryz.func75 (by kernel_rfl) rfl;have HO := jQ fun (x : Cs.Bs × Int) W => y57 x W;have HR := jQ hR;have HD0 := jQ (Dd.y3G (ys.map (·.1)));have HSTEP := jQ (fun (k : Nat) (hk : k < (ys.map (·.1)).length) => Dd.y3F hk);obtain ⟨R, hRr⟩ := zE (Dd.dist (ys.map (·.1)));rw [hRr] at HD0 ⊢;clear hR hRr;go_enter Tryz.func80, Tryz.ntmps80;go_wp2_with fail;go_loopw [9] (fun I wr => ∃ k : Nat, k <= ys.length /\ I = .int .i64 k /\ Dd.distA ((ys.map (·.1)).take k) ((ys.map (·.1)).drop k) = R /\ Below w.heap.size w wr) (fun I _ => ys.length - (intOf I).toNat)
 case atStart => exact ⟨0, Nat.zero_le _, rfl, HD0.o, Below.refl _ _⟩
 clear HD0;obtain ⟨k, hk, rfl, hF, hB⟩ := hrel;by_cases hlt : k < ys.length
 ·have hRw := HR.o.below hB (Nat.le_refl _);obtain ⟨b, off, rfl, hb, e0, e1⟩ := hRw.station hlt;have hb2 : b < wr.heap.size := Nat.lt_of_lt_of_le hb hB.size;have hstep := HSTEP.o k (by simpa using hlt);rw [hF] at hstep;have hxn : (ys.map (·.1))[k]'(by simpa using hlt) = ys[k].1 := by simp
  rw [hxn] at hstep;have hid : decide (ys[k].1 ∈ (ys.map (·.1)).take k) = decide (0 <= Dd.idx ((ys.take k).map (·.1)) ys[k].1) := by
   rw [<- List.map_take];have := Dd.y4y (l := (ys.take k).map (·.1)) (s := ys[k].1);rw [decide_eq_decide];constructor
   ·intro h;refine Decidable.byContradiction fun h2 => ?_;exact this.1 (by omega) h
   intro h;refine Decidable.byContradiction fun h2 => ?_;have := this.2 h2;omega
  rw [hid] at hstep;obtain ⟨x, hx⟩ := zE (ys[k]);rw [hx] at e0 e1 hstep;have hHO := fun W => HO.o x W;have hlk : (ys.take k).length = k := by rw [List.length_take]; omega
  have hnm := fun (V : World) (h : Below wr.heap.size wr V) => y5w (some ⟨b, off, none⟩) c (ys.take k) x.1 V (((hRw.takeSt (Nat.le_of_lt hlt)).below h (Nat.le_trans (Nat.le_refl _) hB.size)).more (Nat.le_trans hB.size h.size)) (by omega);rw [hlk] at hnm;obtain ⟨z, hz⟩ := zE (Dd.idx ((ys.take k).map (·.1)) x.1);rw [hz] at hnm hstep;have HNM := jQ hnm;have HHO := jQ hHO;have HST := jQ hstep;have HB := jQ hB;have hkc : k <= c := by omega
  clear hnm hHO hstep hid hxn hRw hx hz hF hB;go_upto_region 4 with fail;have hW0 := (Below.refl wr.heap.size wr).alloc (Nat.le_refl _) (.cells #[.string ⟨x.1.toArray⟩, .int .i64 x.2] 66);have kx := Bk.new wr 66 #[.string ⟨x.1.toArray⟩, .int .i64 x.2];obtain ⟨W, hW⟩ := zE (wr.alloc (.cells #[.string ⟨x.1.toArray⟩, .int .i64 x.2] 66));obtain ⟨gx, hgx⟩ := zE (wr.heap.size);rw [hW] at hW0 kx ⊢;rw [hgx] at kx;simp only [hgx];have HSB := jQ (show ∀ V, Below W.heap.size W V -> V.cell? ⟨gx, 0, none⟩ = some (.string ⟨x.1.toArray⟩) /\ V.cell? ⟨gx, 1, none⟩ = some (.int .i64 x.2) from fun V h => ⟨((kx.below h kx.lt).cell 0).trans rfl, ((kx.below h kx.lt).cell 1).trans rfl⟩);have hbZ : Below wr.heap.size wr W.drew := hW0.drew;have hbY : Below W.heap.size W W.drew := (Below.refl _ _).drew;clear kx;go_region_held3 (fun V => V.cell? ⟨gx, 0, none⟩ = some (.string ⟨x.1.toArray⟩) /\ V.cell? ⟨gx, 1, none⟩ = some (.int .i64 x.2))
   (first
    | ((try dsimp only); first | (with_reducible exact HSB.o _ hbD) | (with_reducible exact HSB.o _ hbC) | (with_reducible exact HSB.o _ hbY) | trivial))
   (first
    | (go_at_call 75; refine (HHO.o _).mono ?_; rintro e wC ⟨rfl, hbc⟩; have hbC : Below W.heap.size W wC := hbY.trans (hbc.mono hbY.size))
    | (go_at_call 135; refine (HNM.o _ (hW0.trans (hbC.mono hW0.size))).mono ?_; rintro e wD ⟨rfl, hbd⟩; have hbD : Below W.heap.size W wD := hbC.trans (hbd.mono hbC.size)))
  all_goals
   have HBD := jQ (HB.o.trans ((hW0.trans (hbD.mono hW0.size)).mono HB.o.size));have hst := HST.o;rcases hq : decide (0 <= z) with _ | _
   ·rw [hq] at hst;simp only [Bool.not_false, Bool.true_and] at hst;have HS := jQ hst.symm;clear hst;go_wp2_with fail;go_roundw
    case rel => exact ⟨k + 1, by omega, by go_num, HS.o, HBD.o⟩
    case measure => simp [intOf]; omega
   rw [hq] at hst;simp only [Bool.not_true, Bool.false_and] at hst;have HS := jQ hst.symm;clear hst;go_wp2_with fail;go_ret;exact ⟨y00 HS.o, HBD.o⟩
 obtain rfl : k = ys.length := by omega
 rw [List.drop_eq_nil_of_le (by simp)] at hF;have HF := jQ (show true = R from hF);have HB := jQ hB;clear hF hB;go_wp2_with fail;go_ret;exact ⟨y00 HF.o, HB.o⟩
theorem y8W (A : Option Addr) (c : Nat) (ys : List (Cs.Bs)) (w : World) (hR : Rd w w.heap.size 1 A ys.length (wcells ys)) (hl : ys.length <= 1000000) (hcap : ys.length <= c) :
  Calls Tryz.prog 81 #[.slice A ys.length c, .func (.func 77) #[] #[]] w fun e w' => e = .returned (.bool (Dd.dist (ys))) /\ Below w.heap.size w w' := by
 have eg := enters_of Tryz.func77 (by kernel_rfl) rfl;have HO := jQ fun (x : Cs.Bs) W => y58 x W;have HR := jQ hR;have HD0 := jQ (Dd.y3G (ys));have HSTEP := jQ (fun (k : Nat) (hk : k < (ys).length) => Dd.y3F hk);obtain ⟨R, hRr⟩ := zE (Dd.dist (ys));rw [hRr] at HD0 ⊢;clear hR hRr;go_enter Tryz.func81, Tryz.ntmps81;go_wp2_with fail;go_loopw [9] (fun I wr => ∃ k : Nat, k <= ys.length /\ I = .int .i64 k /\ Dd.distA ((ys).take k) ((ys).drop k) = R /\ Below w.heap.size w wr) (fun I _ => ys.length - (intOf I).toNat)
 case atStart => exact ⟨0, Nat.zero_le _, rfl, HD0.o, Below.refl _ _⟩
 clear HD0;obtain ⟨k, hk, rfl, hF, hB⟩ := hrel;by_cases hlt : k < ys.length
 ·have hRw := HR.o.below hB (Nat.le_refl _);obtain ⟨b, off, rfl, hb, e0⟩ := hRw.text hlt;have hb2 : b < wr.heap.size := Nat.lt_of_lt_of_le hb hB.size;have hstep := HSTEP.o k (by simpa using hlt);rw [hF] at hstep;have hxn : (ys)[k]'(by simpa using hlt) = ys[k] := by simp
  rw [hxn] at hstep;have hid : decide (ys[k] ∈ (ys).take k) = decide (0 <= Dd.idx ((ys.take k)) ys[k]) := by
   skip
   have := Dd.y4y (l := (ys.take k)) (s := ys[k]);rw [decide_eq_decide];constructor
   ·intro h;refine Decidable.byContradiction fun h2 => ?_;exact this.1 (by omega) h
   intro h;refine Decidable.byContradiction fun h2 => ?_;have := this.2 h2;omega
  rw [hid] at hstep;obtain ⟨x, hx⟩ := zE (ys[k]);rw [hx] at e0 hstep;have hHO := fun W => HO.o x W;have hlk : (ys.take k).length = k := by rw [List.length_take]; omega
  have hnm := fun (V : World) (h : Below wr.heap.size wr V) => y5x (some ⟨b, off, none⟩) c (ys.take k) x V (((hRw.takeTx (Nat.le_of_lt hlt)).below h (Nat.le_trans (Nat.le_refl _) hB.size)).more (Nat.le_trans hB.size h.size)) (by omega);rw [hlk] at hnm;obtain ⟨z, hz⟩ := zE (Dd.idx ((ys.take k)) x);rw [hz] at hnm hstep;have HNM := jQ hnm;have HHO := jQ hHO;have HST := jQ hstep;have HB := jQ hB;have hkc : k <= c := by omega
  clear hnm hHO hstep hid hxn hRw hx hz hF hB;go_upto_region 4 with fail
   
   
   
   
  have hW0 := Below.refl wr.heap.size wr
   
   
  have HSB := jQ (show ∀ V, Below wr.heap.size wr V -> True from fun V h => trivial);have hbZ : Below wr.heap.size wr wr.drew := hW0.drew;have hbY : Below wr.heap.size wr wr.drew := (Below.refl _ _).drew
   
  go_region_held3 (fun V => True)
   (first
    | ((try dsimp only); first | (with_reducible exact HSB.o _ hbD) | (with_reducible exact HSB.o _ hbC) | (with_reducible exact HSB.o _ hbY) | trivial))
   (first
    | (go_at_call 77; refine (HHO.o _).mono ?_; rintro e wC ⟨rfl, hbc⟩; have hbC : Below wr.heap.size wr wC := hbY.trans (hbc.mono hbY.size))
    | (go_at_call 136; refine (HNM.o _ (hW0.trans (hbC.mono hW0.size))).mono ?_; rintro e wD ⟨rfl, hbd⟩; have hbD : Below wr.heap.size wr wD := hbC.trans (hbd.mono hbC.size)))
  all_goals
   have HBD := jQ (HB.o.trans ((hW0.trans (hbD.mono hW0.size)).mono HB.o.size));have hst := HST.o;rcases hq : decide (0 <= z) with _ | _
   ·rw [hq] at hst;simp only [Bool.not_false, Bool.true_and] at hst;have HS := jQ hst.symm;clear hst;go_wp2_with fail;go_roundw
    case rel => exact ⟨k + 1, by omega, by go_num, HS.o, HBD.o⟩
    case measure => simp [intOf]; omega
   rw [hq] at hst;simp only [Bool.not_true, Bool.false_and] at hst;have HS := jQ hst.symm;clear hst;go_wp2_with fail;go_ret;exact ⟨y00 HS.o, HBD.o⟩
 obtain rfl : k = ys.length := by omega
 rw [List.drop_eq_nil_of_le (by simp)] at hF;have HF := jQ (show true = R from hF);have HB := jQ hB;clear hF hB;go_wp2_with fail;go_ret;exact ⟨y00 HF.o, HB.o⟩
theorem y8U (A : Option Addr) (c : Nat) (ys : List (Dd.Pa)) (w : World) (hR : Rd w w.heap.size 4 A ys.length (pcells ys)) (hl : ys.length <= 1000000) (hcap : ys.length <= c) :
  Calls Tryz.prog 82 #[.slice A ys.length c, .func (.func 79) #[] #[]] w fun e w' => e = .returned (.bool (Dd.dist (ys.map (·.name)))) /\ Below w.heap.size w w' := by
 have eg := enters_of Tryz.func79 (by kernel_rfl) rfl;have HO := jQ fun (x : Dd.Pa) W => y56 x W;have HR := jQ hR;have HD0 := jQ (Dd.y3G (ys.map (·.name)));have HSTEP := jQ (fun (k : Nat) (hk : k < (ys.map (·.name)).length) => Dd.y3F hk);obtain ⟨R, hRr⟩ := zE (Dd.dist (ys.map (·.name)));rw [hRr] at HD0 ⊢;clear hR hRr;go_enter Tryz.func82, Tryz.ntmps82;go_wp2_with fail;go_loopw [9] (fun I wr => ∃ k : Nat, k <= ys.length /\ I = .int .i64 k /\ Dd.distA ((ys.map (·.name)).take k) ((ys.map (·.name)).drop k) = R /\ Below w.heap.size w wr) (fun I _ => ys.length - (intOf I).toNat)
 case atStart => exact ⟨0, Nat.zero_le _, rfl, HD0.o, Below.refl _ _⟩
 clear HD0;obtain ⟨k, hk, rfl, hF, hB⟩ := hrel;by_cases hlt : k < ys.length
 ·have hRw := HR.o.below hB (Nat.le_refl _);obtain ⟨b, off, rfl, hb, e0, e1, e2, e3⟩ := hRw.parcel hlt;have hb2 : b < wr.heap.size := Nat.lt_of_lt_of_le hb hB.size;have hstep := HSTEP.o k (by simpa using hlt);rw [hF] at hstep;have hxn : (ys.map (·.name))[k]'(by simpa using hlt) = ys[k].name := by simp
  rw [hxn] at hstep;have hid : decide (ys[k].name ∈ (ys.map (·.name)).take k) = decide (0 <= Dd.idx ((ys.take k).map (·.name)) ys[k].name) := by
   rw [<- List.map_take];have := Dd.y4y (l := (ys.take k).map (·.name)) (s := ys[k].name);rw [decide_eq_decide];constructor
   ·intro h;refine Decidable.byContradiction fun h2 => ?_;exact this.1 (by omega) h
   intro h;refine Decidable.byContradiction fun h2 => ?_;have := this.2 h2;omega
  rw [hid] at hstep;obtain ⟨x, hx⟩ := zE (ys[k]);rw [hx] at e0 e1 e2 e3 hstep;have hHO := fun W => HO.o x W;have hlk : (ys.take k).length = k := by rw [List.length_take]; omega
  have hnm := fun (V : World) (h : Below wr.heap.size wr V) => yAK (some ⟨b, off, none⟩) c (ys.take k) x.name V (((hRw.takePa (Nat.le_of_lt hlt)).below h (Nat.le_trans (Nat.le_refl _) hB.size)).more (Nat.le_trans hB.size h.size)) (by omega);rw [hlk] at hnm;obtain ⟨z, hz⟩ := zE (Dd.idx ((ys.take k).map (·.name)) x.name);rw [hz] at hnm hstep;have HNM := jQ hnm;have HHO := jQ hHO;have HST := jQ hstep;have HB := jQ hB;have hkc : k <= c := by omega
  clear hnm hHO hstep hid hxn hRw hx hz hF hB;go_upto_region 4 with fail;have hW0 := (Below.refl wr.heap.size wr).alloc (Nat.le_refl _) (.cells #[.string ⟨x.name.toArray⟩, .int .i64 x.south, .int .i64 x.west, .int .i64 x.east] 68);have kx := Bk.new wr 68 #[.string ⟨x.name.toArray⟩, .int .i64 x.south, .int .i64 x.west, .int .i64 x.east];obtain ⟨W, hW⟩ := zE (wr.alloc (.cells #[.string ⟨x.name.toArray⟩, .int .i64 x.south, .int .i64 x.west, .int .i64 x.east] 68));obtain ⟨gx, hgx⟩ := zE (wr.heap.size);rw [hW] at hW0 kx ⊢;rw [hgx] at kx;simp only [hgx];have HSB := jQ (show ∀ V, Below W.heap.size W V -> (V.cell? ⟨gx, 0, none⟩ = some (.string ⟨x.name.toArray⟩) /\ V.cell? ⟨gx, 1, none⟩ = some (.int .i64 x.south)) /\ (V.cell? ⟨gx, 2, none⟩ = some (.int .i64 x.west) /\ V.cell? ⟨gx, 3, none⟩ = some (.int .i64 x.east)) from fun V h => ⟨⟨((kx.below h kx.lt).cell 0).trans rfl, ((kx.below h kx.lt).cell 1).trans rfl⟩, ((kx.below h kx.lt).cell 2).trans rfl, ((kx.below h kx.lt).cell 3).trans rfl⟩);have hbZ : Below wr.heap.size wr W.drew := hW0.drew;have hbY : Below W.heap.size W W.drew := (Below.refl _ _).drew;clear kx;go_region_held3 (fun V => (V.cell? ⟨gx, 0, none⟩ = some (.string ⟨x.name.toArray⟩) /\ V.cell? ⟨gx, 1, none⟩ = some (.int .i64 x.south)) /\ (V.cell? ⟨gx, 2, none⟩ = some (.int .i64 x.west) /\ V.cell? ⟨gx, 3, none⟩ = some (.int .i64 x.east)))
   (first
    | ((try dsimp only); first | (with_reducible exact HSB.o _ hbD) | (with_reducible exact HSB.o _ hbC) | (with_reducible exact HSB.o _ hbY) | trivial))
   (first
    | (go_at_call 79; refine (HHO.o _).mono ?_; rintro e wC ⟨rfl, hbc⟩; have hbC : Below W.heap.size W wC := hbY.trans (hbc.mono hbY.size))
    | (go_at_call 137; refine (HNM.o _ (hW0.trans (hbC.mono hW0.size))).mono ?_; rintro e wD ⟨rfl, hbd⟩; have hbD : Below W.heap.size W wD := hbC.trans (hbd.mono hbC.size)))
  all_goals
   have HBD := jQ (HB.o.trans ((hW0.trans (hbD.mono hW0.size)).mono HB.o.size));have hst := HST.o;rcases hq : decide (0 <= z) with _ | _
   ·rw [hq] at hst;simp only [Bool.not_false, Bool.true_and] at hst;have HS := jQ hst.symm;clear hst;go_wp2_with fail;go_roundw
    case rel => exact ⟨k + 1, by omega, by go_num, HS.o, HBD.o⟩
    case measure => simp [intOf]; omega
   rw [hq] at hst;simp only [Bool.not_true, Bool.false_and] at hst;have HS := jQ hst.symm;clear hst;go_wp2_with fail;go_ret;exact ⟨y00 HS.o, HBD.o⟩
 obtain rfl : k = ys.length := by omega
 rw [List.drop_eq_nil_of_le (by simp)] at hF;have HF := jQ (show true = R from hF);have HB := jQ hB;clear hF hB;go_wp2_with fail;go_ret;exact ⟨y00 HF.o, HB.o⟩
end
end Go.Proofs.YtccikcpcfdjobaaGreatDoor
