/-
  What the claims of layer deed need of the texts DQj.
-/
import Derived.Test.YtccikcpcfdjobaaGreatDoorBn25
import Derived.Test.YtccikcpcfdjobaaGreatDoorBn20
import Derived.Test.YtccikcpcfdjobaaGreatDoorBn04
set_option linter.unusedVariables false
set_option linter.unusedSimpArgs false
namespace Go.Proofs.YtccikcpcfdjobaaGreatDoor
open Go.RowKit
set_option maxRecDepth 100000
theorem Dd.qtouch (p x : Dd.Pa) : Dd.touch x p = ((decide (p.south = x.south) && (decide (p.east = x.west) || decide (x.east = p.west))) || ((decide (p.south = x.south + 1) || decide (x.south = p.south + 1)) && decide (1 < Dd.comQ p x))) := by
 rw [← Dd.qtouch_eq x p, Dd.comQ_facing]
 have hf : Dd.facing x p = Dd.facing p x := by
  unfold Dd.facing
  rw [Bool.eq_iff_iff]
  simp only [decide_eq_true_eq]
  omega
 unfold Dd.qbesideF Dd.qaboveF
 rw [hf, Bool.eq_iff_iff]
 simp only [Bool.or_eq_true, Bool.and_eq_true, decide_eq_true_eq]
 constructor
 ·rintro (⟨h1, h2⟩ | ⟨h1, h2⟩)
  ·exact Or.inl ⟨h1.symm, h2.symm⟩
  ·exact Or.inr ⟨h1.symm, h2⟩
 ·rintro (⟨h1, h2⟩ | ⟨h1, h2⟩)
  ·exact Or.inl ⟨h1.symm, h2.symm⟩
  ·exact Or.inr ⟨h1.symm, h2⟩
set_option maxHeartbeats 16000000 in
theorem qAdjF_any (v : Fv) (f : Dd.Fd) (i : Int) (w : World) (hF : FRd w w.heap.size v f) :
  Calls Tryz.prog 14 #[fval v f, .int .i64 i] w fun e w' => ∃ A c, e = .returned (.tuple #[.slice A (Dd.adjF f i).1.length c, .int .i64 (Dd.adjF f i).2]) ∧ Rd w' w'.heap.size 1 A (Dd.adjF f i).1.length (icells (Dd.adjF f i).1) ∧ Below w.heap.size w w' := by
 obtain ⟨i0, hi0, hz0, hz1, hz2⟩ := info_parts infoI3
 have hd : Dd.adjF f i = if Dd.fieldE f ≠ 0 then ([], Dd.fieldE f) else if Dd.isIx i f.pa.length then (Dd.adjA (Dd.paAt f i) f.pa 0, 0) else ([], 1) := rfl
 have hl3 := hF.l3
 have S0 := Lib.hid (Fs.new hF)
 have B0 := Lib.hid (fun W (h : Fs w w.heap.size v f W) => qCheckField_any v f W h.rd)
 simp only [fval_def] at B0 ⊢
 clear hF
 obtain ⟨R, hR⟩ : ∃ R, Dd.adjF f i = R := ⟨_, rfl⟩
 obtain ⟨E, hE⟩ : ∃ e, Dd.fieldE f = e := ⟨_, rfl⟩
 rw [hR, hE] at hd
 rw [hR]
 rw [hE] at B0
 have HD := Lib.hid hd
 have HE := Lib.hid hE
 clear hd hR hE
 obtain ⟨f0, f1, f2, f3, fl⟩ := S0.out.cells
 by_cases h0 : E = 0
 ·subst h0
  have HD := Lib.hid (HD.out.trans (if_neg (by simp)))
  obtain ⟨hs1, hs2, hs3, hs4, hs5, -, -, -, hrg, hord⟩ := Dd.field_facts HE.out
  have HSM := Lib.hid (Dd.range_small hrg hs3)
  have HSO := Lib.hid (show ∀ p ∈ f.pa, 0 ≤ p.south ∧ p.south ≤ 100 from fun p hp => by
   have := hrg
   unfold Dd.rangeF at this
   rw [Bool.and_eq_true, List.all_eq_true, List.all_eq_true] at this
   have := this.2 p hp
   unfold Dd.paOk Dd.isIx at this
   simp only [Bool.and_eq_true, decide_eq_true_eq] at this
   omega)
  have HWE := Lib.hid (show ∀ j (h : j < f.pa.length), f.pa[j].west < f.pa[j].east from fun j hj => by
   have := hord
   unfold Dd.orderF at this
   rw [Bool.and_eq_true, Dd.qclear_iff] at this
   exact (this.2 j hj).1)
  have H1 := fun W => qWithin_any i 0 ((f.pa.length : Int) - 1) W
  rw [show decide (0 ≤ i ∧ i ≤ (f.pa.length : Int) - 1) = Dd.isIx i f.pa.length by unfold Dd.isIx; rw [Bool.eq_iff_iff]; simp only [decide_eq_true_eq]; omega] at H1
  obtain ⟨z1, hz⟩ : ∃ z, Dd.isIx i f.pa.length = z := ⟨_, rfl⟩
  rw [hz] at H1 HD
  have H1 := Lib.hid H1
  have HZ1 := Lib.hid hz
  clear hz hrg hord
  go_enter Tryz.func14, Tryz.ntmps14
  go_wp2_with fail
  refine (B0.out _ S0.out).mono ?_
  rintro e w1 ⟨rfl, hb⟩
  have S1 := Lib.hid (S0.out.next hb)
  clear hb f0 f1 f2 f3 fl S0
  obtain ⟨f0, f1, f2, f3, fl⟩ := S1.out.cells
  go_wp2_with fail
  refine (H1.out _).mono ?_
  rintro e w9 ⟨rfl, rfl⟩
  rcases z1 with _ | _
  ·have HR := Lib.hid (show R = ([], 1) from HD.out)
   go_wp2_with fail
   go_ret2
   exact ⟨none, 0, by rw [HR.out]; rfl, by rw [HR.out]; exact Rd.nil _ _ _ _, S1.out.b⟩
  have HD2 := Lib.hid (show R = (Dd.adjA (Dd.paAt f i) f.pa 0, 0) from HD.out)
  have hix := of_decide_eq_true (show decide (0 ≤ i ∧ i < (f.pa.length : Int)) = true from HZ1.out)
  obtain ⟨u, rfl⟩ : ∃ u : Nat, i = u := ⟨i.toNat, by omega⟩
  have hul : u < f.pa.length := by omega
  obtain ⟨b, off, hA1, hb, e0, e1, e2, e3⟩ := S1.out.rd.pa.parcel hul
  have f2' := f2
  rw [hA1] at f2'
  obtain ⟨p, hp⟩ : ∃ q, f.pa[u] = q := ⟨_, rfl⟩
  rw [hp] at e0 e1 e2 e3
  have hpa : Dd.paAt f (u : Int) = p := by
   unfold Dd.paAt
   rw [Int.toNat_natCast, List.getElem?_eq_getElem hul, hp]
   rfl
  rw [hpa] at HD2
  have HP := Lib.hid hp
  have HPS := Lib.hid (show Dd.Small p by rw [← hp]; exact HSM.out _ (List.getElem_mem hul))
  have hpso : 0 ≤ p.south ∧ p.south ≤ 100 := by rw [← hp]; exact HSO.out _ (List.getElem_mem hul)
  have S2 := Lib.hid (S1.out.next ((Below.refl w9.heap.size w9).alloc (Nat.le_refl _) (.cells #[.string ⟨p.name.toArray⟩, .int .i64 p.south, .int .i64 p.west, .int .i64 p.east] 68)))
  have KP := Lib.hid (Bk.new w9 68 #[.string ⟨p.name.toArray⟩, .int .i64 p.south, .int .i64 p.west, .int .i64 p.east])
  clear f2 hp hpa hA1
  go_upto_region 8 with fail
  refine wp_cutW (fun V => Fs w w.heap.size v f V ∧ Bk V w9.heap.size 68 #[.string ⟨p.name.toArray⟩, .int .i64 p.south, .int .i64 p.west, .int .i64 p.east]) ⟨S2.out, KP.out⟩ ?_
  rintro W3 ⟨hS, hkp⟩
  have S3 := Lib.hid hS
  have K3 := Lib.hid hkp
  have hgs : w.heap.size ≤ w9.heap.size := S1.out.b.size
  obtain ⟨g, hg⟩ : ∃ g, w9.heap.size = g := ⟨_, rfl⟩
  rw [hg] at K3 hgs ⊢
  have HGS := Lib.hid hgs
  clear S1 S2 KP f0 f1 f2' f3 fl e0 e1 e2 e3 hb hS hkp hg hgs
  go_wp2_with fail
  go_loopw [7, 9] (fun V I wr => ∃ (k : Nat) (L : List Int), k ≤ f.pa.length ∧ I = .int .i64 k ∧ L.length ≤ k ∧ L ++ Dd.adjA p (f.pa.drop k) k = Dd.adjA p f.pa 0 ∧ wr.ownsRow (g + 1) 3 1 V L.length (icells L) ∧ Fs w w.heap.size v f wr ∧ Bk wr g 68 #[.string ⟨p.name.toArray⟩, .int .i64 p.south, .int .i64 p.west, .int .i64 p.east]) (fun _ I _ => f.pa.length - (intOf I).toNat)
  case atStart => exact ⟨0, [], Nat.zero_le _, rfl, Nat.le_refl _, rfl, World.ownsRow_nil _ _ _ _, S3.out, K3.out⟩
  case round =>
   clear S3 K3
   obtain ⟨k, L, hk, rfl, hLk, hL, hown, hS, hkp⟩ := hrel
   have HL := Lib.hid hL
   have HO := Lib.hid hown
   have S4 := Lib.hid hS
   have K4 := Lib.hid hkp
   clear hL hown hS hkp
   obtain ⟨f0, f1, f2, f3, fl⟩ := S4.out.cells
   by_cases hlt : k < f.pa.length
   ·obtain ⟨b, off, hA1, hb, e0, e1, e2, e3⟩ := S4.out.rd.pa.parcel hlt
    have f2' := f2
    rw [hA1] at f2'
    obtain ⟨x, hx⟩ : ∃ q, f.pa[k] = q := ⟨_, rfl⟩
    rw [hx] at e0 e1 e2 e3
    have HX := Lib.hid hx
    have HXS := Lib.hid (show Dd.Small x by rw [← hx]; exact HSM.out _ (List.getElem_mem hlt))
    have hxso : 0 ≤ x.south ∧ x.south ≤ 100 := by rw [← hx]; exact HSO.out _ (List.getElem_mem hlt)
    have HST := Lib.hid (show L ++ ((if Dd.touch x p then [(k : Int)] else []) ++ Dd.adjA p (f.pa.drop (k + 1)) ((k : Int) + 1)) = Dd.adjA p f.pa 0 by rw [← hx, ← Dd.adjA_step p f.pa k hlt]; exact HL.out)
    have HTC := Lib.hid (Dd.qtouch p x)
    have HC := Lib.hid (fun W => qCommon_any p x HPS.out HXS.out W)
    have hbn := (Below.refl wr.heap.size wr).alloc (Nat.le_refl _) (.cells #[.string ⟨x.name.toArray⟩, .int .i64 x.south, .int .i64 x.west, .int .i64 x.east] 68)
    have S5n := Lib.hid (S4.out.next hbn)
    have K5n := Lib.hid (K4.out.below hbn K4.out.lt)
    have KXn := Lib.hid (Bk.new wr 68 #[.string ⟨x.name.toArray⟩, .int .i64 x.south, .int .i64 x.west, .int .i64 x.east])
    have HOn := Lib.hid (own_belowG HO.out hbn)
    clear f2 hx hA1 hbn
    go_upto_region 12 with fail
    refine wp_cutW (fun W => Fs w w.heap.size v f W ∧ Bk W g 68 #[.string ⟨p.name.toArray⟩, .int .i64 p.south, .int .i64 p.west, .int .i64 p.east] ∧ Bk W wr.heap.size 68 #[.string ⟨x.name.toArray⟩, .int .i64 x.south, .int .i64 x.west, .int .i64 x.east] ∧ W.ownsRow (g + 1) 3 1 u7 L.length (icells L)) ⟨S5n.out, K5n.out, KXn.out, HOn.out⟩ ?_
    rintro W5 ⟨hS, hkp, hkx, hown⟩
    have S5 := Lib.hid hS
    have K5 := Lib.hid hkp
    have X5 := Lib.hid hkx
    have O5 := Lib.hid hown
    obtain ⟨gx, hgx⟩ : ∃ g, wr.heap.size = g := ⟨_, rfl⟩
    rw [hgx] at X5 ⊢
    clear S4 K4 S5n K5n KXn HOn HO f0 f1 f2' f3 fl e0 e1 e2 e3 hb hS hkp hkx hown hgx HL
    have p0 := (K5.out.cell 0).trans rfl
    have p1 := (K5.out.cell 1).trans rfl
    have p2 := (K5.out.cell 2).trans rfl
    have p3 := (K5.out.cell 3).trans rfl
    have pl := K5.out.lt
    have x0 := (X5.out.cell 0).trans rfl
    have x1 := (X5.out.cell 1).trans rfl
    have x2 := (X5.out.cell 2).trans rfl
    have x3 := (X5.out.cell 3).trans rfl
    have xl := X5.out.lt
    have hw1 : IntKind.i64.wrap (x.south + 1) = x.south + 1 := IntWalk.i64_in _ (by omega)
    have hw2 : IntKind.i64.wrap (p.south + 1) = p.south + 1 := IntWalk.i64_in _ (by omega)
    by_cases hku : k = u
    ·have hxp : x = p := by rw [← HX.out, ← HP.out]; congr 1
     have hwe : p.west < p.east := by rw [← HP.out]; exact HWE.out u hul
     have dki : ((k : Int) != (u : Int)) = false := by simp only [bne_eq_false_iff_eq]; omega
     have h1 : p.south = x.south := by rw [hxp]
     have h2 : ¬ p.east = x.west := by rw [hxp]; omega
     have h3 : ¬ x.east = p.west := by rw [hxp]; omega
     have e1 : (p.south == x.south) = true := beq_iff_eq.2 (h1)
     have e2 : (p.east == x.west) = false := beq_eq_false_iff_ne.2 (h2)
     have e3 : (x.east == p.west) = false := beq_eq_false_iff_ne.2 (h3)
     have e4 : (p.south == x.south + 1) = false := beq_eq_false_iff_ne.2 (by omega)
     have e5 : (x.south == p.south + 1) = false := beq_eq_false_iff_ne.2 (by omega)
     have HTV := Lib.hid (show Dd.touch x p = false by
      rw [HTC.out]
      simp [h1, h2, h3] <;> (intro h9; omega))
     clear hwe hku hpso hxso h1 h2 h3 hxp
     go_wp2_with fail
     go_roundw
     case rel =>
      refine ⟨k + 1, L, by omega, by go_num, by omega, ?_, O5.out, S5.out, K5.out⟩
      have h9 := HST.out
      rw [HTV.out, if_neg (by decide), List.nil_append] at h9
      exact h9
     case measure => simp [intOf]; omega
    by_cases h1 : p.south = x.south
    ·by_cases h2 : p.east = x.west
     ·have dki : ((k : Int) != (u : Int)) = true := by simp only [bne_iff_ne]; omega
      have e1 : (p.south == x.south) = true := beq_iff_eq.2 (h1)
      have e4 : (p.south == x.south + 1) = false := beq_eq_false_iff_ne.2 (by omega)
      have e5 : (x.south == p.south + 1) = false := beq_eq_false_iff_ne.2 (by omega)
      have e2 : (p.east == x.west) = true := beq_iff_eq.2 (h2)
      have HTV := Lib.hid (show Dd.touch x p = true by
       rw [HTC.out]
       simp [h1, h2] <;> (intro h9; omega))
      clear h1 h2 hku hpso hxso
      have hown5 := O5.out
      have lgx : g + 1 ≤ W5.heap.size := K5.out.lt
      go_wp2_with (at_builtin; refine wpList_appN rfl (.tmp 90) (.tmp 92) 28 rfl 3 i0 _ 1 8 Tryz.underlying28 hi0 hz0 hz1 hz2 rfl (by omega) (g + 1) u7 L.length _ _ 1 1 W5 rfl hown5 rfl rfl (by intro q hq; simp only [List.mem_cons, List.not_mem_nil, or_false] at hq; subst hq; rfl) (by omega) (by unfold maxLen; omega) (by omega) lgx ?_; intro v' W8 hv8 hb8)
      have hgl : w.heap.size ≤ g := HGS.out
      refine ⟨⟨k + 1, L ++ [(k : Int)], by omega, by go_num, by simp; omega, ?_, ?_, ⟨S5.out.b.trans (hb8.mono (by omega)), K5.out |> fun _ => S5.out.k.below hb8 (by have := K5.out.lt; omega), S5.out.r.below hb8 (by omega)⟩, K5.out.below hb8 (Nat.lt_succ_self _)⟩, ?_⟩
      ·have h9 := HST.out
       rw [HTV.out, if_pos rfl] at h9
       rw [List.append_assoc]
       exact h9
      ·rw [List.length_append, icells_append]
       exact hv8
      ·show f.pa.length - ((k : Int) + 1).toNat < f.pa.length - ((k : Int)).toNat
       omega
     ·by_cases h3 : x.east = p.west
      ·have dki : ((k : Int) != (u : Int)) = true := by simp only [bne_iff_ne]; omega
       have e1 : (p.south == x.south) = true := beq_iff_eq.2 (h1)
       have e4 : (p.south == x.south + 1) = false := beq_eq_false_iff_ne.2 (by omega)
       have e5 : (x.south == p.south + 1) = false := beq_eq_false_iff_ne.2 (by omega)
       have e2 : (p.east == x.west) = false := beq_eq_false_iff_ne.2 (h2)
       have e3 : (x.east == p.west) = true := beq_iff_eq.2 (h3)
       have HTV := Lib.hid (show Dd.touch x p = true by
        rw [HTC.out]
        simp [h1, h3] <;> (intro h9; omega))
       clear h1 h2 h3 hku hpso hxso
       have hown5 := O5.out
       have lgx : g + 1 ≤ W5.heap.size := K5.out.lt
       go_wp2_with (at_builtin; refine wpList_appN rfl (.tmp 90) (.tmp 92) 28 rfl 3 i0 _ 1 8 Tryz.underlying28 hi0 hz0 hz1 hz2 rfl (by omega) (g + 1) u7 L.length _ _ 1 1 W5 rfl hown5 rfl rfl (by intro q hq; simp only [List.mem_cons, List.not_mem_nil, or_false] at hq; subst hq; rfl) (by omega) (by unfold maxLen; omega) (by omega) lgx ?_; intro v' W8 hv8 hb8)
       have hgl : w.heap.size ≤ g := HGS.out
       refine ⟨⟨k + 1, L ++ [(k : Int)], by omega, by go_num, by simp; omega, ?_, ?_, ⟨S5.out.b.trans (hb8.mono (by omega)), K5.out |> fun _ => S5.out.k.below hb8 (by have := K5.out.lt; omega), S5.out.r.below hb8 (by omega)⟩, K5.out.below hb8 (Nat.lt_succ_self _)⟩, ?_⟩
       ·have h9 := HST.out
        rw [HTV.out, if_pos rfl] at h9
        rw [List.append_assoc]
        exact h9
       ·rw [List.length_append, icells_append]
        exact hv8
       ·show f.pa.length - ((k : Int) + 1).toNat < f.pa.length - ((k : Int)).toNat
        omega
      ·have dki : ((k : Int) != (u : Int)) = true := by simp only [bne_iff_ne]; omega
       have e1 : (p.south == x.south) = true := beq_iff_eq.2 (h1)
       have e4 : (p.south == x.south + 1) = false := beq_eq_false_iff_ne.2 (by omega)
       have e5 : (x.south == p.south + 1) = false := beq_eq_false_iff_ne.2 (by omega)
       have e2 : (p.east == x.west) = false := beq_eq_false_iff_ne.2 (h2)
       have e3 : (x.east == p.west) = false := beq_eq_false_iff_ne.2 (h3)
       have HTV := Lib.hid (show Dd.touch x p = false by
        rw [HTC.out]
        simp [h1, h2, h3] <;> (intro h9; omega))
       clear h1 h2 h3 hku hpso hxso
       go_wp2_with fail
       go_roundw
       case rel =>
        refine ⟨k + 1, L, by omega, by go_num, by omega, ?_, O5.out, S5.out, K5.out⟩
        have h9 := HST.out
        rw [HTV.out, if_neg (by decide), List.nil_append] at h9
        exact h9
       case measure => simp [intOf]; omega
    ·by_cases hc : 1 < Dd.comQ p x
     ·by_cases h4 : p.south = x.south + 1
      ·have dki : ((k : Int) != (u : Int)) = true := by simp only [bne_iff_ne]; omega
       have e1 : (p.south == x.south) = false := beq_eq_false_iff_ne.2 (h1)
       have e4 : (p.south == x.south + 1) = true := beq_iff_eq.2 (h4)
       have d9 : decide (Dd.comQ p x > 1) = true := decide_eq_true hc
       have HTV := Lib.hid (show Dd.touch x p = true by
        rw [HTC.out]
        simp [h4, hc] <;> (intro h9; omega))
       clear h1 h4 hc hku hpso hxso
       go_wp2_with fail
       refine (HC.out _).mono ?_
       rintro e w6 ⟨rfl, hb6⟩
       have S6 := Lib.hid (S5.out.next hb6)
       have K6 := Lib.hid (K5.out.below hb6 pl)
       have O6 := Lib.hid (own_belowG O5.out hb6)
       clear hb6 p0 p1 p2 p3 pl x0 x1 x2 x3 xl
       have hown6 := O6.out
       have lgx : g + 1 ≤ w6.heap.size := K6.out.lt
       go_wp2_with (at_builtin; refine wpList_appN rfl (.tmp 90) (.tmp 92) 28 rfl 3 i0 _ 1 8 Tryz.underlying28 hi0 hz0 hz1 hz2 rfl (by omega) (g + 1) u7 L.length _ _ 1 1 w6 rfl hown6 rfl rfl (by intro q hq; simp only [List.mem_cons, List.not_mem_nil, or_false] at hq; subst hq; rfl) (by omega) (by unfold maxLen; omega) (by omega) lgx ?_; intro v' W8 hv8 hb8)
       have hgl : w.heap.size ≤ g := HGS.out
       refine ⟨⟨k + 1, L ++ [(k : Int)], by omega, by go_num, by simp; omega, ?_, ?_, ⟨S6.out.b.trans (hb8.mono (by omega)), K6.out |> fun _ => S6.out.k.below hb8 (by have := K6.out.lt; omega), S6.out.r.below hb8 (by omega)⟩, K6.out.below hb8 (Nat.lt_succ_self _)⟩, ?_⟩
       ·have h9 := HST.out
        rw [HTV.out, if_pos rfl] at h9
        rw [List.append_assoc]
        exact h9
       ·rw [List.length_append, icells_append]
        exact hv8
       ·show f.pa.length - ((k : Int) + 1).toNat < f.pa.length - ((k : Int)).toNat
        omega
      ·by_cases h5 : x.south = p.south + 1
       ·have dki : ((k : Int) != (u : Int)) = true := by simp only [bne_iff_ne]; omega
        have e1 : (p.south == x.south) = false := beq_eq_false_iff_ne.2 (h1)
        have e4 : (p.south == x.south + 1) = false := beq_eq_false_iff_ne.2 (h4)
        have e5 : (x.south == p.south + 1) = true := beq_iff_eq.2 (h5)
        have d9 : decide (Dd.comQ p x > 1) = true := decide_eq_true hc
        have HTV := Lib.hid (show Dd.touch x p = true by
         rw [HTC.out]
         simp [h1, h5, hc] <;> (intro h9; omega))
        clear h1 h4 h5 hc hku hpso hxso
        go_wp2_with fail
        refine (HC.out _).mono ?_
        rintro e w6 ⟨rfl, hb6⟩
        have S6 := Lib.hid (S5.out.next hb6)
        have K6 := Lib.hid (K5.out.below hb6 pl)
        have O6 := Lib.hid (own_belowG O5.out hb6)
        clear hb6 p0 p1 p2 p3 pl x0 x1 x2 x3 xl
        have hown6 := O6.out
        have lgx : g + 1 ≤ w6.heap.size := K6.out.lt
        go_wp2_with (at_builtin; refine wpList_appN rfl (.tmp 90) (.tmp 92) 28 rfl 3 i0 _ 1 8 Tryz.underlying28 hi0 hz0 hz1 hz2 rfl (by omega) (g + 1) u7 L.length _ _ 1 1 w6 rfl hown6 rfl rfl (by intro q hq; simp only [List.mem_cons, List.not_mem_nil, or_false] at hq; subst hq; rfl) (by omega) (by unfold maxLen; omega) (by omega) lgx ?_; intro v' W8 hv8 hb8)
        have hgl : w.heap.size ≤ g := HGS.out
        refine ⟨⟨k + 1, L ++ [(k : Int)], by omega, by go_num, by simp; omega, ?_, ?_, ⟨S6.out.b.trans (hb8.mono (by omega)), K6.out |> fun _ => S6.out.k.below hb8 (by have := K6.out.lt; omega), S6.out.r.below hb8 (by omega)⟩, K6.out.below hb8 (Nat.lt_succ_self _)⟩, ?_⟩
        ·have h9 := HST.out
         rw [HTV.out, if_pos rfl] at h9
         rw [List.append_assoc]
         exact h9
        ·rw [List.length_append, icells_append]
         exact hv8
        ·show f.pa.length - ((k : Int) + 1).toNat < f.pa.length - ((k : Int)).toNat
         omega
       ·have dki : ((k : Int) != (u : Int)) = true := by simp only [bne_iff_ne]; omega
        have e1 : (p.south == x.south) = false := beq_eq_false_iff_ne.2 (h1)
        have e4 : (p.south == x.south + 1) = false := beq_eq_false_iff_ne.2 (h4)
        have e5 : (x.south == p.south + 1) = false := beq_eq_false_iff_ne.2 (h5)
        have HTV := Lib.hid (show Dd.touch x p = false by
         rw [HTC.out]
         simp [h1, h4, h5] <;> (intro h9; omega))
        clear h1 h4 h5 hc hku hpso hxso
        go_wp2_with fail
        go_roundw
        case rel =>
         refine ⟨k + 1, L, by omega, by go_num, by omega, ?_, O5.out, S5.out, K5.out⟩
         have h9 := HST.out
         rw [HTV.out, if_neg (by decide), List.nil_append] at h9
         exact h9
        case measure => simp [intOf]; omega
     ·by_cases h4 : p.south = x.south + 1
      ·have dki : ((k : Int) != (u : Int)) = true := by simp only [bne_iff_ne]; omega
       have e1 : (p.south == x.south) = false := beq_eq_false_iff_ne.2 (h1)
       have e4 : (p.south == x.south + 1) = true := beq_iff_eq.2 (h4)
       have d9 : decide (Dd.comQ p x > 1) = false := decide_eq_false (by omega)
       have HTV := Lib.hid (show Dd.touch x p = false by
        rw [HTC.out]
        simp [h4, hc] <;> (intro h9; omega))
       clear h1 h4 hc hku hpso hxso
       go_wp2_with fail
       refine (HC.out _).mono ?_
       rintro e w6 ⟨rfl, hb6⟩
       have S6 := Lib.hid (S5.out.next hb6)
       have K6 := Lib.hid (K5.out.below hb6 pl)
       have O6 := Lib.hid (own_belowG O5.out hb6)
       clear hb6 p0 p1 p2 p3 pl x0 x1 x2 x3 xl
       go_wp2_with fail
       go_roundw
       case rel =>
        refine ⟨k + 1, L, by omega, by go_num, by omega, ?_, O6.out, S6.out, K6.out⟩
        have h9 := HST.out
        rw [HTV.out, if_neg (by decide), List.nil_append] at h9
        exact h9
       case measure => simp [intOf]; omega
      ·by_cases h5 : x.south = p.south + 1
       ·have dki : ((k : Int) != (u : Int)) = true := by simp only [bne_iff_ne]; omega
        have e1 : (p.south == x.south) = false := beq_eq_false_iff_ne.2 (h1)
        have e4 : (p.south == x.south + 1) = false := beq_eq_false_iff_ne.2 (h4)
        have e5 : (x.south == p.south + 1) = true := beq_iff_eq.2 (h5)
        have d9 : decide (Dd.comQ p x > 1) = false := decide_eq_false (by omega)
        have HTV := Lib.hid (show Dd.touch x p = false by
         rw [HTC.out]
         simp [h1, h5, hc] <;> (intro h9; omega))
        clear h1 h4 h5 hc hku hpso hxso
        go_wp2_with fail
        refine (HC.out _).mono ?_
        rintro e w6 ⟨rfl, hb6⟩
        have S6 := Lib.hid (S5.out.next hb6)
        have K6 := Lib.hid (K5.out.below hb6 pl)
        have O6 := Lib.hid (own_belowG O5.out hb6)
        clear hb6 p0 p1 p2 p3 pl x0 x1 x2 x3 xl
        go_wp2_with fail
        go_roundw
        case rel =>
         refine ⟨k + 1, L, by omega, by go_num, by omega, ?_, O6.out, S6.out, K6.out⟩
         have h9 := HST.out
         rw [HTV.out, if_neg (by decide), List.nil_append] at h9
         exact h9
        case measure => simp [intOf]; omega
       ·have dki : ((k : Int) != (u : Int)) = true := by simp only [bne_iff_ne]; omega
        have e1 : (p.south == x.south) = false := beq_eq_false_iff_ne.2 (h1)
        have e4 : (p.south == x.south + 1) = false := beq_eq_false_iff_ne.2 (h4)
        have e5 : (x.south == p.south + 1) = false := beq_eq_false_iff_ne.2 (h5)
        have HTV := Lib.hid (show Dd.touch x p = false by
         rw [HTC.out]
         simp [h1, h4, h5] <;> (intro h9; omega))
        clear h1 h4 h5 hc hku hpso hxso
        go_wp2_with fail
        go_roundw
        case rel =>
         refine ⟨k + 1, L, by omega, by go_num, by omega, ?_, O5.out, S5.out, K5.out⟩
         have h9 := HST.out
         rw [HTV.out, if_neg (by decide), List.nil_append] at h9
         exact h9
        case measure => simp [intOf]; omega
   ·have hfin : L = Dd.adjA p f.pa 0 := by
     have := HL.out
     rw [List.drop_eq_nil_of_le (by omega), Dd.adjA, List.append_nil] at this
     exact this
    obtain rfl : k = f.pa.length := by omega
    obtain ⟨A', c', rfl, hrd, -⟩ := ownB_rd HO.out (icells_length L)
    have HRD := Lib.hid hrd
    have HFIN := Lib.hid hfin
    have HR := Lib.hid (show R = (L, 0) by rw [HD2.out, ← HFIN.out])
    clear hrd hfin HO HL
    go_wp2_with fail
    go_ret2
    exact ⟨A', c', by rw [HR.out]; rfl, by rw [HR.out]; exact HRD.out, S4.out.b⟩
 ·have HR := Lib.hid (HD.out.trans (if_pos h0))
  have hne : (E != 0) = true := by simp [h0]
  rw [HR.out]
  go_enter Tryz.func14, Tryz.ntmps14
  go_wp2_with fail
  refine (B0.out _ S0.out).mono ?_
  rintro e w1 ⟨rfl, hb⟩
  have S1 := Lib.hid (S0.out.next hb)
  clear hb
  go_wp2_with fail
  go_ret2
  exact ⟨none, 0, rfl, Rd.nil _ _ _ _, S1.out.b⟩
end Go.Proofs.YtccikcpcfdjobaaGreatDoor
