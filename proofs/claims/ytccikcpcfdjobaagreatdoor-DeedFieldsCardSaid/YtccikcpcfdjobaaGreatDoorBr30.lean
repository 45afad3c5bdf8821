/-
  What the claims of layer deed need of the texts DQc, DQna.
-/
import Derived.Great.BuildSlice
import Derived.Great.FillDense
import Derived.Deep.RegionHeld3
import Derived.Test.YtccikcpcfdjobaaGreatDoorBr21
import Derived.Test.YtccikcpcfdjobaaGreatDoorBr04
import Derived.Test.YtccikcpcfdjobaaGreatDoorBr17
import Derived.Test.YtccikcpcfdjobaaGreatDoorBr18
import Derived.Test.YtccikcpcfdjobaaGreatDoorBr20
import Derived.Test.YtccikcpcfdjobaaGreatDoorBr06
import Derived.Test.YtccikcpcfdjobaaGreatDoorBr23
import Derived.Test.YtccikcpcfdjobaaGreatDoorBr02
import Derived.Test.YtccikcpcfdjobaaGreatDoorBr25
import Derived.Test.YtccikcpcfdjobaaGreatDoorBz
set_option linter.unusedVariables false
set_option linter.unusedSimpArgs false
set_option maxHeartbeats 8000000
set_option maxRecDepth 100000
namespace Go.Proofs.YtccikcpcfdjobaaGreatDoor
section
open Go.RowKit
theorem qPoints_any (v : Fv) (f : Dd.Fd) (w : World) (hF : FRd w w.heap.size v f) : Calls Tryz.prog 40 #[fval v f] w fun e w' => e = .returned (.int .i64 (Dd.ptsF f)) ∧ Below w.heap.size w w' := by
 have hd : Dd.ptsF f = if Dd.fieldE f = 0 then (Dd.ptsN f : Int) else 0 := rfl
 have hl1 := hF.l1
 have hl2 := hF.l2
 have S0 := jQ (Fs.new hF)
 have B0 := jQ (fun W (h : Fs w w.heap.size v f W) => qCheckField_any v f W h.rd)
 simp only [fval_def] at B0 ⊢
 clear hF
 obtain ⟨E, hE⟩ : ∃ E, Dd.fieldE f = E := ⟨_, rfl⟩
 rw [hE] at B0 hd
 obtain ⟨m0, m1⟩ := mul_small (l := f.li.length) (by omega) (by omega) hl1
 rw [pts_cast] at hd
 obtain ⟨P, hP⟩ : ∃ P, (f.li.length : Int) * (f.st.length : Int) = P := ⟨_, rfl⟩
 rw [hP] at m0 m1 hd
 obtain ⟨R, hR⟩ : ∃ R, Dd.ptsF f = R := ⟨_, rfl⟩
 rw [hR] at hd ⊢
 have HD := jQ hd
 clear hd hR hE
 obtain ⟨f0, f1, f2, f3, fl⟩ := S0.o.cells
 by_cases h0 : E = 0
 ·subst h0
  have HR := jQ (HD.o.trans (if_pos rfl))
  go_enter Tryz.func40, Tryz.ntmps40
  go_wp2_with fail
  refine (B0.o _ S0.o).mono ?_
  rintro e w1 ⟨rfl, hb⟩
  have S1 := jQ (S0.o.next hb)
  clear hb f0 f1 f2 f3 fl S0
  obtain ⟨f0, f1, f2, f3, fl⟩ := S1.o.cells
  go_wp2_with fail
  go_ret
  exact ⟨ret_int HR.o.symm, S1.o.b⟩
 ·have HR := jQ (HD.o.trans (if_neg h0))
  have hne : (E != 0) = true := by simp [h0]
  go_enter Tryz.func40, Tryz.ntmps40
  go_wp2_with fail
  refine (B0.o _ S0.o).mono ?_
  rintro e w1 ⟨rfl, hb⟩
  have S1 := jQ (S0.o.next hb)
  clear hb
  go_wp2_with fail
  go_ret
  exact ⟨ret_int HR.o.symm, S1.o.b⟩
end

section
open Go.RowKit
set_option maxHeartbeats 16000000 in
theorem qNatureF_any (v : Fv) (f : Dd.Fd) (w : World) (hF : FRd w w.heap.size v f) :
  Calls Tryz.prog 34 #[fval v f] w fun e w' => ∃ A c, e = .returned (.tuple #[.slice A (Dd.natureF f).1.length c, .int .i64 (Dd.natureF f).2]) ∧ Rd w' w'.heap.size 4 A (Dd.natureF f).1.length (bcells (Dd.natureF f).1) ∧ Below w.heap.size w w' := by
 have hd : Dd.natureF f = if Dd.fieldE f ≠ 0 then ([], Dd.fieldE f) else (Dd.nat f, 0) := rfl
 have hl1 := hF.l1
 have S0 := jQ (Fs.new hF)
 have B0 := jQ (fun W (h : Fs w w.heap.size v f W) => qCheckField_any v f W h.rd)
 have B1 := jQ (fun W (h : Fs w w.heap.size v f W) => qPoints_any v f W h.rd)
 have B2 := jQ (fun (l s : Int) (h1 : 0 ≤ l) (h2 : l ≤ 1000000) (h3 : 0 ≤ s) (h4 : s ≤ 1000000) W => qPoint_any v f l s hl1 h1 h2 h3 h4 W)
 obtain ⟨i0, hi0, hz0, hz1, hz2⟩ := info_parts infoB
 rw [hd]
 obtain ⟨ef, hef⟩ : ∃ e, Dd.fieldE f = e := ⟨_, rfl⟩
 rw [hef] at B0 ⊢
 simp only [fval_def] at B0 B1 B2 ⊢
 obtain ⟨c0, c1, c2, c3, lg⟩ := S0.o.cells
 clear hd hF
 by_cases he : ef = 0
 ·subst he
  have hpt : Dd.ptsF f = (Dd.ptsN f : Int) := by unfold Dd.ptsF; rw [if_pos hef]
  obtain ⟨hs1, hs2, hs3, hs4, -⟩ := Dd.field_facts hef
  have hN : Dd.ptsN f = 1 + f.li.length * f.st.length := rfl
  have hN2 := Nat.mul_le_mul hs4 hs3
  have hnat : Dd.nat f = Dd.natP (Dd.ptsN f - 1) 1 ++ Dd.natL f.st.length (f.li.length - 1) 0 := rfl
  obtain ⟨N, hNN⟩ : ∃ N, Dd.ptsN f = N := ⟨_, rfl⟩
  rw [hpt, hNN] at B1
  rw [hNN] at hN hnat
  rw [if_neg (by simp)]
  obtain ⟨nf, hnf⟩ : ∃ e, Dd.nat f = e := ⟨_, rfl⟩
  rw [hnf] at hnat ⊢
  have HNT := jQ hnat
  have hN1 : 1 ≤ N := by omega
  have hN3 : N ≤ 10001 := by omega
  clear hpt hNN hnat hnf hN hN2 hef
  dsimp only
  go_enter Tryz.func34, Tryz.ntmps34
  go_wp2_with fail
  refine (B0.o _ S0.o).mono ?_
  rintro e w1 ⟨rfl, hb⟩
  have S1 := jQ (S0.o.next hb)
  clear hb c0 c1 c2 c3 lg S0
  go_wp2_with fail
  go_loopw [5, 6] (fun V I wr => ∃ p : Nat, 1 ≤ p ∧ p ≤ N ∧ I = .int .i64 p ∧ wr.ownsRow w1.heap.size 78 4 V (Dd.natP (p - 1) 1).length (bcells (Dd.natP (p - 1) 1)) ∧ Below w1.heap.size w1 wr) (fun _ I _ => N - (intOf I).toNat)
  case atStart => exact ⟨1, Nat.le_refl _, hN1, rfl, World.ownsRow_nil _ _ _ _, Below.refl _ _⟩
  case round =>
   obtain ⟨p, hp1, hpN, rfl, hown, hB⟩ := hrel
   have S2 := jQ (S1.o.next hB)
   have HO := jQ hown
   have HB := jQ hB
   clear hown hB
   obtain ⟨c0, c1, c2, c3, lg⟩ := S2.o.cells
   by_cases hlt : p < N
   ·have d1 : decide ((p : Int) < (N : Int)) = true := decide_eq_true (by omega)
    go_wp2_with fail
    refine (B1.o _ S2.o).mono ?_
    rintro e w3 ⟨rfl, hb⟩
    have HB3 := jQ (HB.o.trans (hb.mono HB.o.size))
    have hown := own_belowG HO.o hb
    clear hb c0 c1 c2 c3 lg S2
    have hlen := Dd.natP_len (p - 1) 1
    have hsn := Dd.natP_snoc (p - 1) 1
    rw [show p - 1 + 1 = p by omega, show 1 + (p - 1) = p by omega] at hsn
    have hcl : bcells (Dd.natP p 1) = bcells (Dd.natP (p - 1) 1) ++ [.int .i64 0, .int .i64 p, .int .i64 100000, .int .i64 0] ++ [.int .i64 p, .int .i64 0, .int .i64 0, .int .i64 0] := by
     rw [hsn]
     unfold bcells
     rw [List.flatMap_append, List.append_assoc]
     rfl
    have HCL := jQ hcl
    have HL2 := jQ (show (Dd.natP p 1).length = (Dd.natP (p - 1) 1).length + 1 + 1 by rw [Dd.natP_len, Dd.natP_len]; omega)
    obtain ⟨q, hq⟩ : ∃ q, (Dd.natP (p - 1) 1).length = q := ⟨_, rfl⟩
    rw [hq] at hown hlen HL2
    have hbs : w1.heap.size ≤ w3.heap.size := HB3.o.size
    clear hsn hcl hq HO HB
    go_wp2_with (at_builtin; first | (refine wpList_appN rfl (.tmp 20) (.tmp 23) 52 rfl 78 i0 _ 4 32 Tryz.underlying52 hi0 hz0 hz1 hz2 rfl (by omega) w1.heap.size u5 q _ _ 1 1 w3 rfl hown rfl rfl (bcells_one [⟨0, p, 100000, 0⟩]) (by omega) (by unfold maxLen; omega) (by omega) hbs ?_; intro v4 W4 hv4 hb4; have hbs4 : w1.heap.size ≤ W4.heap.size := Nat.le_trans hbs hb4.size) | (refine wpList_appN rfl (.tmp 25) (.tmp 28) 52 rfl 78 i0 _ 4 32 Tryz.underlying52 hi0 hz0 hz1 hz2 rfl (by omega) w1.heap.size v4 (q + 1) _ _ 1 1 W4 rfl hv4 rfl rfl (bcells_one [⟨p, 0, 0, 0⟩]) (by omega) (by unfold maxLen; omega) (by omega) hbs4 ?_; intro v5 W5 hv5 hb5))
    refine ⟨⟨p + 1, by omega, by omega, by go_num, ?_, (HB3.o.trans hb4).trans hb5⟩, ?_⟩
    ·rw [Nat.add_sub_cancel, HL2.o, HCL.o]
     exact hv5
    ·show N - ((p : Int) + 1).toNat < N - ((p : Int)).toNat
     omega
   ·have d1 : decide ((p : Int) < (N : Int)) = false := decide_eq_false (by omega)
    have hpe : p = N := by omega
    subst hpe
    go_wp2_with fail
    refine (B1.o _ S2.o).mono ?_
    rintro e w3 ⟨rfl, hb⟩
    have HB3 := jQ (HB.o.trans (hb.mono HB.o.size))
    have HO3 := jQ (own_belowG HO.o hb)
    clear hb c0 c1 c2 c3 lg S2 HB HO
    go_wp2_with fail
    go_loopw [5, 7] (fun V I wr => ∃ l : Nat, l ≤ f.li.length - 1 ∧ I = .int .i64 l ∧ wr.ownsRow w1.heap.size 78 4 V ((Dd.natP (p - 1) 1).length + (Dd.natL f.st.length l 0).length) (bcells (Dd.natP (p - 1) 1) ++ bcells (Dd.natL f.st.length l 0)) ∧ Below w1.heap.size w1 wr) (fun _ I _ => f.li.length - 1 - (intOf I).toNat)
    case atStart => exact ⟨0, Nat.zero_le _, rfl, (by simpa [Dd.natL, bcells] using HO3.o), HB3.o⟩
    case round =>
     clear HB3 HO3
     obtain ⟨l, hl, rfl, hown, hB⟩ := hrel
     have S2 := jQ (S1.o.next hB)
     have HO := jQ hown
     have HB := jQ hB
     clear hown hB
     obtain ⟨c0, c1, c2, c3, lg⟩ := S2.o.cells
     have hwl : IntKind.i64.wrap ((l : Int) + 1) = (l : Int) + 1 := IntWalk.i64_in _ (by omega)
     by_cases hlt : l < f.li.length - 1
     ·have d1 : decide ((l : Int) + 1 < (f.li.length : Int)) = true := decide_eq_true (by omega)
      go_wp2_with fail
      clear c0 c1 c2 c3 lg d1
      go_loopw [5, 8] (fun V I wr => ∃ j : Nat, j ≤ f.st.length ∧ I = .int .i64 j ∧ wr.ownsRow w1.heap.size 78 4 V ((Dd.natP (p - 1) 1).length + (Dd.natL f.st.length l 0).length + j) (bcells (Dd.natP (p - 1) 1) ++ bcells (Dd.natL f.st.length l 0) ++ bcells (Dd.natS f.st.length l j 0)) ∧ Below w1.heap.size w1 wr) (fun _ I _ => f.st.length - (intOf I).toNat)
      case atStart => exact ⟨0, Nat.zero_le _, rfl, (by simpa [Dd.natS, bcells] using HO.o), HB.o⟩
      case round =>
       clear HB HO S2
       obtain ⟨j, hj, rfl, hown, hB⟩ := hrel
       have S2 := jQ (S1.o.next hB)
       have HO := jQ hown
       have HB := jQ hB
       clear hown hB
       obtain ⟨c0, c1, c2, c3, lg⟩ := S2.o.cells
       by_cases hjk : j < f.st.length
       ·have d1 : decide ((j : Int) < (f.st.length : Int)) = true := decide_eq_true (by omega)
        go_wp2_with fail
        have HSC := jQ fun (W : World) (hb : Below w1.heap.size w1 W) => (show (W.cell? ⟨w.heap.size, 0, none⟩ = some (.slice v.a1 f.st.length v.c1) ∧ W.cell? ⟨w.heap.size, 1, none⟩ = some (.slice v.a2 f.li.length v.c2)) ∧ (W.cell? ⟨w.heap.size, 2, none⟩ = some (.slice v.a3 f.pa.length v.c3) ∧ W.cell? ⟨w.heap.size, 3, none⟩ = some (.slice v.a4 f.va.length v.c4)) from by
         obtain ⟨g0, g1, g2, g3, -⟩ := (S1.o.next hb).cells
         exact ⟨⟨g0, g1⟩, g2, g3⟩)
        obtain ⟨Q, hQ⟩ : ∃ Q, (Dd.natP (p - 1) 1).length + (Dd.natL f.st.length l 0).length + j = Q := ⟨_, rfl⟩
        obtain ⟨X, hX⟩ : ∃ X, bcells (Dd.natP (p - 1) 1) ++ bcells (Dd.natL f.st.length l 0) ++ bcells (Dd.natS f.st.length l j 0) = X := ⟨_, rfl⟩
        have hO := HO.o
        rw [hQ, hX] at hO
        have HO1 := jQ hO
        have HQ := jQ hQ
        have HX := jQ hX
        have hQm : Q ≤ 1000000 := by
         rw [← hQ, Dd.natP_len, Dd.natL_len]
         have := Nat.mul_le_mul (show l ≤ 10 by omega) hs3
         omega
        have HKL := jQ HB.o.size
        have hbD : Below wr.heap.size wr wr.drew := (Below.refl _ _).drew
        obtain ⟨⟨b0, b1⟩, ⟨b2, b3⟩⟩ := HSC.o _ (HB.o.trans (hbD.mono HB.o.size))
        clear hO hQ hX HO
        go_region_held3 (fun V => (V.cell? ⟨w.heap.size, 0, none⟩ = some (.slice v.a1 f.st.length v.c1) ∧ V.cell? ⟨w.heap.size, 1, none⟩ = some (.slice v.a2 f.li.length v.c2)) ∧ (V.cell? ⟨w.heap.size, 2, none⟩ = some (.slice v.a3 f.pa.length v.c3) ∧ V.cell? ⟨w.heap.size, 3, none⟩ = some (.slice v.a4 f.va.length v.c4)))
         (first
          | go_keep
          | ((try dsimp only); first | (with_reducible exact g0) | (with_reducible exact g1) | (with_reducible exact g2) | (with_reducible exact g3)))
         (first
          | (go_at_call 47; refine (B2.o _ _ (by omega) (by omega) (by omega) (by omega) _).mono ?_; first | (rintro e w6 ⟨rfl, hb3⟩; have hbF : Below wr.heap.size wr w6 := hbE.trans (hb3.mono hbE.size); obtain ⟨⟨g0, g1⟩, ⟨g2, g3⟩⟩ := HSC.o _ (HB.o.trans (hbF.mono HB.o.size)); have hown3 := jQ ((own_belowG HO1.o hbF).alloc (.cells #[.int .i64 (Dd.pt f ((l : Int) + 1) j), .int .i64 (Dd.pt f l j), .int .i64 0, .int .i64 0] 78)); have hrd3 := jQ (newB_rd w6 (Dd.pt f ((l : Int) + 1) j) (Dd.pt f l j))) | (rintro e w5 ⟨rfl, hb2⟩; have hbE : Below wr.heap.size wr w5 := hbD.trans (hb2.mono hbD.size); obtain ⟨⟨e0, e1⟩, ⟨e2, e3⟩⟩ := HSC.o _ (HB.o.trans (hbE.mono HB.o.size))))
          | (refine step_append_rd rfl (.tmp 45) (.tmp 56) 52 rfl w1.heap.size 78 i0 _ 4 32 Tryz.underlying52 hi0 hz0 hz1 hz2 rfl (by omega) u5 Q X (by rfl) hown3.o (some ⟨w6.heap.size, 0, none⟩) 1 1 _ _ (by rfl) hrd3.o (bcells_one _) (by unfold maxLen; omega) (by omega) (Nat.le_trans HKL.o (Nat.le_trans hbF.size (by simp))) ?_; intro v7 W7 hown4 hg4 hat4; have hb4 : Below w1.heap.size wr W7 := below_own ((hbF.mono HKL.o).alloc (Nat.le_trans HKL.o hbF.size) _) (Nat.le_refl _) hg4 (fun r e => (hown3.o.lt r e).1) (Nat.le_trans HKL.o (Nat.le_trans hbF.size (by simp))); obtain ⟨⟨h0, h1⟩, ⟨h2, h3⟩⟩ := HSC.o W7 (HB.o.trans hb4)))
        all_goals
         have HB4 := jQ (HB.o.trans hb4)
         have HO4 := jQ hown4
         clear h0 h1 h2 h3 hb4 hown4 hg4 hat4
         go_wp2_with fail
         refine ⟨⟨j + 1, by omega, by go_num, ?_, HB4.o⟩, ?_⟩
         ·rw [Dd.natS_snoc, Nat.zero_add, ← Nat.add_assoc, HQ.o, show bcells (Dd.natS f.st.length l j 0 ++ [⟨1 + ((l : Int) + 1) * f.st.length + (j : Int), 1 + (l : Int) * f.st.length + (j : Int), 0, 0⟩]) = bcells (Dd.natS f.st.length l j 0) ++ bcells [⟨1 + ((l : Int) + 1) * f.st.length + (j : Int), 1 + (l : Int) * f.st.length + (j : Int), 0, 0⟩] by unfold bcells; rw [List.flatMap_append], ← List.append_assoc, HX.o]
          exact HO4.o
         ·show f.st.length - ((j : Int) + 1).toNat < f.st.length - ((j : Int)).toNat
          omega
       ·have d1 : decide ((j : Int) < (f.st.length : Int)) = false := decide_eq_false (by omega)
        have hje : j = f.st.length := by omega
        subst hje
        go_wp2_with fail
        refine ⟨⟨l + 1, by omega, by go_num, ?_, HB.o⟩, ?_⟩
        ·rw [Dd.natL_snoc, Nat.zero_add, List.length_append, Dd.natS_len, show bcells (Dd.natL f.st.length l 0 ++ Dd.natS f.st.length l f.st.length 0) = bcells (Dd.natL f.st.length l 0) ++ bcells (Dd.natS f.st.length l f.st.length 0) by unfold bcells; rw [List.flatMap_append], ← List.append_assoc, ← Nat.add_assoc]
         exact HO.o
        ·show f.li.length - 1 - ((l : Int) + 1).toNat < f.li.length - 1 - ((l : Int)).toNat
         omega
     ·have d1 : decide ((l : Int) + 1 < (f.li.length : Int)) = false := decide_eq_false (by omega)
      have hle : l = f.li.length - 1 := by omega
      have HE := jQ hle
      clear hle
      have hq : (Dd.natP (p - 1) 1).length + (Dd.natL f.st.length l 0).length = nf.length := by rw [HNT.o, List.length_append, HE.o]
      have hcells : bcells (Dd.natP (p - 1) 1) ++ bcells (Dd.natL f.st.length l 0) = bcells nf := by
       rw [HNT.o, HE.o]
       unfold bcells
       rw [List.flatMap_append]
      have hO := HO.o
      rw [hq, hcells] at hO
      obtain ⟨A', c', rfl, hrd, hfar⟩ := ownB_rd hO (bcellsD_length _)
      have HR := jQ hrd
      clear hO hq hcells hrd hfar HO
      go_wp2_with fail
      go_ret2
      exact ⟨A', c', rfl, HR.o, S2.o.b⟩
 ·rw [if_pos he]
  have hne : (ef != 0) = true := by simp [he]
  clear hef he
  dsimp only
  go_enter Tryz.func34, Tryz.ntmps34
  go_wp2_with fail
  refine (B0.o _ S0.o).mono ?_
  rintro e w1 ⟨rfl, hb⟩
  have S1 := jQ (S0.o.next hb)
  clear hb c0 c1 c2 c3 lg
  go_wp2_with fail
  go_ret2
  exact ⟨none, 0, rfl, Rd.nil _ _ _ _, S1.o.b⟩
end
end Go.Proofs.YtccikcpcfdjobaaGreatDoor
