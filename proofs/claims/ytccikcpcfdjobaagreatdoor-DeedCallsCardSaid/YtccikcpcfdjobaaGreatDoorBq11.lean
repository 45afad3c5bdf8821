/-
  What the claims of layer deed need of the texts Sum, Read, Lnk, DVst, DOpn.
-/
import Derived.Test.YtccikcpcfdjobaaGreatDoorBq07
import Derived.Test.YtccikcpcfdjobaaGreatDoorBq05
import Derived.Test.YtccikcpcfdjobaaGreatDoorBq08
import Derived.Test.YtccikcpcfdjobaaGreatDoorBz
set_option linter.unusedVariables false
set_option linter.unusedSimpArgs false
set_option maxHeartbeats 8000000
set_option maxRecDepth 100000
namespace Go.Proofs.YtccikcpcfdjobaaGreatDoor
section
open Go.RowKit Go.Shelf
theorem wrap_wr (x : Int) : IntKind.i64.wrap x = Cs.wr x := by
 rw [IntKind.wrap_i64]
 unfold Cs.wr
 split <;> omega
theorem wr_range (x : Int) : -9223372036854775808 ≤ Cs.wr x ∧ Cs.wr x ≤ 9223372036854775807 := by
 unfold Cs.wr
 split <;> omega
theorem Rd.word {w : World} {B n : Nat} {A : Option Addr} {ws : List Cs.Bs} (h : Rd w B 1 A n (wcells ws)) {k : Nat} (hk : k < ws.length) :
  ∃ b off, A = some ⟨b, off, none⟩ ∧ b < B ∧ w.cell? ⟨b, off + k, none⟩ = some (.string ⟨ws[k].toArray⟩) := by
 have hl : ws.length = n := by have := h.1; simpa [wcells] using this
 obtain ⟨b, off, e, hb, hc⟩ := h.2 (by omega)
 refine ⟨b, off, e, hb, ?_⟩
 rw [hc k (by omega)]
 simp [wcells, hk, sv]
theorem back_words {B m c b off : Nat} {ws : List Cs.Bs} {w0 : World} (h : Rd w0 B 1 (some ⟨b, off, none⟩) m (wcells ws)) (hc : m ≤ c) (i : Nat) (hi0 : 0 < i) (hi : i ≤ m) :
  Rd w0 B 1 (if c = i then some ⟨b, off, none⟩ else some ⟨b, off + i, none⟩) (m - i) (wcells (ws.drop i)) := by
 have hl : ws.length = m := by have := h.1; simpa [wcells] using this
 obtain ⟨b', off', e', hb, hcell⟩ := h.2 (by omega)
 cases e'
 by_cases e : c = i
 ·rw [if_pos e]
  have e2 : m = i := by omega
  rw [e2, Nat.sub_self, List.drop_eq_nil_of_le (by omega)]
  exact Rd.nil _ _ _ _
 ·rw [if_neg e]
  refine ⟨by simp [wcells, hl], fun hp => ⟨b, off + i, rfl, hb, fun j hj => ?_⟩⟩
  rw [Nat.add_assoc, hcell (i + j) (by omega)]
  simp [wcells, List.getElem?_drop]
namespace Cs
theorem sumF_few {us : List Un} {acc : Int} {ws : List Bs} (h : ws.length ≤ 1) : sumF us acc ws = some acc := by
 rcases ws with _ | ⟨a, _ | ⟨b, r⟩⟩
 ·simp [sumF]
 ·simp [sumF]
 ·simp at h
theorem sumF_no1 {us : List Un} {acc : Int} {ws : List Bs} {k : Nat} (h : 2 * k + 1 < ws.length) (h1 : numF ws[2 * k] = none) : sumF us acc (ws.drop (2 * k)) = none := by
 rw [List.drop_eq_getElem_cons (by omega), List.drop_eq_getElem_cons (by omega), sumF, h1]
theorem sumF_no2 {us : List Un} {acc : Int} {ws : List Bs} {k : Nat} {n : Int} (h : 2 * k + 1 < ws.length) (h1 : numF ws[2 * k] = some n) (h2 : sizeF us ws[2 * k + 1] = none) : sumF us acc (ws.drop (2 * k)) = none := by
 rw [List.drop_eq_getElem_cons (by omega), List.drop_eq_getElem_cons (by omega), sumF, h1, h2]
theorem sumF_yes {us : List Un} {acc : Int} {ws : List Bs} {k : Nat} {n z : Int} (h : 2 * k + 1 < ws.length) (h1 : numF ws[2 * k] = some n) (h2 : sizeF us ws[2 * k + 1] = some z) : sumF us acc (ws.drop (2 * k)) = sumF us (wr (acc + wr (n * z))) (ws.drop (2 * (k + 1))) := by
 rw [List.drop_eq_getElem_cons (by omega), List.drop_eq_getElem_cons (by omega), sumF, h1, h2]
 rfl
end Cs
theorem sum1_any (g : Nat) (us : List Uo) (hst : ∀ n, 1 ≤ n → ∀ Kp w, SeqStopsK Fence.wide n Tryz.prog g #[] uvals Kp (fun xs => xs = us) (fun pre => pre <+: us) us.length w)
  (eg : ∀ args w, (callFunc g args).run Tryz.prog w = .ok (.enter g args) w) (bu : Nat) (tu : TypeId) (A : Option Addr) (c : Nat) (ws : List Cs.Bs) (w : World) (hE : Env w) (hU : Bk w bu tu #[.func (.func g) #[] #[]])
  (hR : Rd w w.heap.size 1 A ws.length (wcells ws)) (hc : ws.length ≤ c) (hn : ws.length ≤ 1000) (hl : ∀ x ∈ ws, x.length ≤ 1000000) :
  Calls Tryz.prog 301 #[.slice A ws.length c, .pointer (some ⟨bu, 0, none⟩)] w fun e w' => Rdn (Cs.sumF (us.map (·.1)) 0 ws) e ∧ Below w.heap.size w w' := by
 obtain ⟨RR, hRR⟩ : ∃ r, Cs.sumF (us.map (·.1)) 0 ws = r := ⟨_, rfl⟩
 rw [hRR]
 have HRR := jQ hRR
 have HE := jQ hE
 have HU := jQ hU
 have HR := jQ hR
 have HL := jQ hl
 have HSI := jQ (fun wd w => size_any g us hst eg wd w)
 clear hRR hE hU hR hl hst eg
 go_enter Tryz.func301, Tryz.ntmps301
 go_wp2_with fail
 go_loopw [0, 4] (fun S N wr => ∃ (k : Nat) (acc : Int) (A' : Option Addr) (c' : Nat), 2 * k ≤ ws.length ∧ S = .slice A' (ws.length - 2 * k) c' ∧ ws.length - 2 * k ≤ c' ∧ N = .int .i64 acc ∧ -9223372036854775808 ≤ acc ∧ acc ≤ 9223372036854775807 ∧
   Cs.sumF (us.map (·.1)) acc (ws.drop (2 * k)) = RR ∧ Rd wr wr.heap.size 1 A' (ws.length - 2 * k) (wcells (ws.drop (2 * k))) ∧ Below w.heap.size w wr) (fun S _ _ => match S with | .slice _ n _ => n | _ => 0)
 case atStart => exact ⟨0, 0, A, c, by omega, rfl, hc, rfl, by omega, by omega, by rw [Nat.mul_zero, List.drop_zero]; exact HRR.o, by rw [Nat.mul_zero, List.drop_zero]; exact HR.o, Below.refl _ _⟩
 case round =>
  obtain ⟨k, acc, A', c', hk, rfl, hc', rfl, ha0, ha1, hF, hRd, hB⟩ := hrel
  by_cases hgo : 2 * k + 1 < ws.length
  ·obtain ⟨bw, ow, rfl, hbw, ca⟩ := hRd.word (k := 0) (by rw [List.length_drop]; omega)
   obtain ⟨bw2, ow2, hA2, _, cb⟩ := hRd.word (k := 1) (by rw [List.length_drop]; omega)
   cases hA2
   rw [List.getElem_drop, Nat.add_zero] at ca
   simp only [Nat.add_zero] at ca
   rw [List.getElem_drop] at cb
   obtain ⟨a, ha⟩ : ∃ x, ws[2 * k] = x := ⟨_, rfl⟩
   obtain ⟨b, hb⟩ : ∃ x, ws[2 * k + 1] = x := ⟨_, rfl⟩
   have hla : a.length ≤ 1000000 := by rw [← ha]; exact HL.o _ (List.getElem_mem _)
   rw [ha] at ca
   rw [hb] at cb
   have hm1 : 1 < ws.length - 2 * k := by omega
   have hR9 := back_words hRd hc' 2 (by omega) (by omega)
   rw [List.drop_drop] at hR9
   obtain ⟨m, hm⟩ : ∃ m, ws.length - 2 * k = m := ⟨_, rfl⟩
   have hU1 := HU.o.below hB HU.o.lt
   have cu := (hU1.cell 0).trans rfl
   have lu := hU1.lt
   have hEW := HE.o.step hB
   have HEW := jQ hEW
   have hSB : ∀ W, Below wr.heap.size wr W → (W.cell? ⟨bw, ow, none⟩ = some (.string ⟨a.toArray⟩) ∧ W.cell? ⟨bw, ow + 1, none⟩ = some (.string ⟨b.toArray⟩)) ∧ W.cell? ⟨bu, 0, none⟩ = some (.func (.func g) #[] #[]) := fun W h =>
    ⟨⟨(h.cell (p := ⟨bw, ow, none⟩) hbw).trans ca, (h.cell (p := ⟨bw, ow + 1, none⟩) hbw).trans cb⟩, (h.cell (p := ⟨bu, 0, none⟩) lu).trans cu⟩
   have HSB := jQ hSB
   have HB := jQ hB
   have HR9 := jQ hR9
   have HFF := jQ hF
   have hbZ : Below wr.heap.size wr wr.drew := (Below.refl _ _).drew
   rw [hm] at hm1 hc'
   have HM := jQ hm
   rw [hm]
   have hm0 : 0 < m := by omega
   rcases hna : Cs.numF a with _ | v
   ·have hfin := Cs.sumF_no1 (us := us.map (·.1)) (acc := acc) hgo (by rw [ha]; exact hna)
    rw [hF] at hfin
    have HF := jQ hfin
    have hnu := fun w h => number_no a hna hla w h
    rw [sv_def] at hnu
    have HNU := jQ hnu
    clear hfin hF hB hR9 hRd hEW hSB hU1 hm ha hb hnu
    go_wp2_with fail
    refine wp_region_held_drew (S := fun W => (W.cell? ⟨bw, ow, none⟩ = some (.string ⟨a.toArray⟩) ∧ W.cell? ⟨bw, ow + 1, none⟩ = some (.string ⟨b.toArray⟩)) ∧ W.cell? ⟨bu, 0, none⟩ = some (.func (.func g) #[] #[])) (by kernel_rfl) (HSB.o _ hbZ) (fun _ => ?_)
    (refine wpAnyH_take (i := 0) (v := ?_) rfl (by kernel_rfl) (by kernel_rfl) (by kernel_rfl) (fun _ _ _ h => h) (Or.inl ⟨by rfl, ?_⟩) (HSB.o _ hbZ) ?_; rotate_left 1; focus (intro w hSw; (try dsimp only at hSw); go_simp; all_goals (with_reducible rfl)); (try simp only [Act.put, List.setIfInBounds_toArray, List.set_cons_zero, List.set_cons_succ]))
    (refine wpAnyH_take (i := 1) (v := ?_) rfl (by kernel_rfl) (by kernel_rfl) (by kernel_rfl) (fun _ _ _ h => h) (Or.inl ⟨by rfl, ?_⟩) (HSB.o _ hbZ) ?_; rotate_left 1; focus (intro w hSw; (try dsimp only at hSw); go_simp; all_goals (with_reducible rfl)); (try simp only [Act.put, List.setIfInBounds_toArray, List.set_cons_zero, List.set_cons_succ]))
    (refine wpAnyH_take (i := 2) (v := ?_) rfl (by kernel_rfl) (by kernel_rfl) (by kernel_rfl) (fun _ _ _ h => h) (Or.inl ⟨by rfl, ?_⟩) (HSB.o _ hbZ) ?_; rotate_left 1; focus (intro w hSw; (try dsimp only at hSw); go_simp; all_goals (with_reducible rfl)); (try simp only [Act.put, List.setIfInBounds_toArray, List.set_cons_zero, List.set_cons_succ]))
    (refine wpAnyH_take (i := 3) (v := ?_) rfl (by kernel_rfl) (by kernel_rfl) (by kernel_rfl) (fun _ _ _ h => h) (Or.inl ⟨by rfl, ?_⟩) (HSB.o _ hbZ) ?_; rotate_left 1; focus (intro w hSw; (try dsimp only at hSw); go_simp; all_goals (with_reducible rfl)); (try simp only [Act.put, List.setIfInBounds_toArray, List.set_cons_zero, List.set_cons_succ]))
    (refine wpAnyH_take (i := 5) (v := ?_) rfl (by kernel_rfl) (by kernel_rfl) (by kernel_rfl) (fun _ _ _ h => h) (Or.inl ⟨by rfl, ?_⟩) (HSB.o _ hbZ) ?_; rotate_left 1; focus (intro w hSw; (try dsimp only at hSw); go_simp; all_goals (with_reducible rfl)); (try simp only [Act.put, List.setIfInBounds_toArray, List.set_cons_zero, List.set_cons_succ]))
    (refine wpAnyH_take (i := 6) (v := ?_) rfl (by kernel_rfl) (by kernel_rfl) (by kernel_rfl) (fun _ _ _ h => h) (Or.inl ⟨by rfl, ?_⟩) (HSB.o _ hbZ) ?_; rotate_left 1; focus (intro w hSw; (try dsimp only at hSw); go_simp; all_goals (with_reducible rfl)); (try simp only [Act.put, List.setIfInBounds_toArray, List.set_cons_zero, List.set_cons_succ]))
    (refine wpAnyH_take (i := 7) (v := ?_) rfl (by kernel_rfl) (by kernel_rfl) (by kernel_rfl) (fun _ _ _ h => h) (Or.inl ⟨by rfl, ?_⟩) (HSB.o _ hbZ) ?_; rotate_left 1; focus (intro w hSw; (try dsimp only at hSw); go_simp; all_goals (with_reducible rfl)); (try simp only [Act.put, List.setIfInBounds_toArray, List.set_cons_zero, List.set_cons_succ]))
    (refine wpAnyH_take (i := 8) (v := ?_) rfl (by kernel_rfl) (by kernel_rfl) (by kernel_rfl) (fun _ _ _ h => h) (Or.inl ⟨by rfl, ?_⟩) (HSB.o _ hbZ) ?_; rotate_left 1; focus (intro w hSw; (try dsimp only at hSw); go_simp; all_goals (with_reducible rfl)); (try simp only [Act.put, List.setIfInBounds_toArray, List.set_cons_zero, List.set_cons_succ]))
    refine wpAnyH_ready (rs := [4]) (by kernel_rfl) (by simp) ?_
    refine AllReadyH.cons rfl (fun K hK => ?_) AllReadyH.nil
    rw [if_pos (by rfl)]
    go_simp
    refine (HNU.o wr.drew (HEW.o.step hbZ)).mono ?_
    rintro e wC ⟨rfl, hbc⟩
    simp only []
    exact ⟨rfl, Rdn.none_ HF.o, HB.o.trans ((hbZ.trans (hbc.mono hbZ.size)).mono HB.o.size)⟩
   ·have hnu := fun w => number_yes a v hna hla w
    rw [sv_def] at hnu
    have HNU := jQ hnu
    have hsi := fun w => HSI.o b w
    rw [sv_def] at hsi
    rcases hsb : Cs.sizeF (us.map (·.1)) b with _ | z
    ·have hfin := Cs.sumF_no2 (us := us.map (·.1)) (acc := acc) hgo (by rw [ha]; exact hna) (by rw [hb]; exact hsb)
     rw [hF] at hfin
     have HF := jQ hfin
     rw [hsb] at hsi
     have HSZ := jQ hsi
     clear hfin hF hB hR9 hRd hEW hSB hU1 hm ha hb hnu hsi hna hsb
     go_wp2_with fail
     refine wp_region_held_drew (S := fun W => (W.cell? ⟨bw, ow, none⟩ = some (.string ⟨a.toArray⟩) ∧ W.cell? ⟨bw, ow + 1, none⟩ = some (.string ⟨b.toArray⟩)) ∧ W.cell? ⟨bu, 0, none⟩ = some (.func (.func g) #[] #[])) (by kernel_rfl) (HSB.o _ hbZ) (fun _ => ?_)
     (refine wpAnyH_take (i := 0) (v := ?_) rfl (by kernel_rfl) (by kernel_rfl) (by kernel_rfl) (fun _ _ _ h => h) (Or.inl ⟨by rfl, ?_⟩) (HSB.o _ hbZ) ?_; rotate_left 1; focus (intro w hSw; (try dsimp only at hSw); go_simp; all_goals (with_reducible rfl)); (try simp only [Act.put, List.setIfInBounds_toArray, List.set_cons_zero, List.set_cons_succ]))
     (refine wpAnyH_take (i := 1) (v := ?_) rfl (by kernel_rfl) (by kernel_rfl) (by kernel_rfl) (fun _ _ _ h => h) (Or.inl ⟨by rfl, ?_⟩) (HSB.o _ hbZ) ?_; rotate_left 1; focus (intro w hSw; (try dsimp only at hSw); go_simp; all_goals (with_reducible rfl)); (try simp only [Act.put, List.setIfInBounds_toArray, List.set_cons_zero, List.set_cons_succ]))
     (refine wpAnyH_take (i := 2) (v := ?_) rfl (by kernel_rfl) (by kernel_rfl) (by kernel_rfl) (fun _ _ _ h => h) (Or.inl ⟨by rfl, ?_⟩) (HSB.o _ hbZ) ?_; rotate_left 1; focus (intro w hSw; (try dsimp only at hSw); go_simp; all_goals (with_reducible rfl)); (try simp only [Act.put, List.setIfInBounds_toArray, List.set_cons_zero, List.set_cons_succ]))
     (refine wpAnyH_take (i := 3) (v := ?_) rfl (by kernel_rfl) (by kernel_rfl) (by kernel_rfl) (fun _ _ _ h => h) (Or.inl ⟨by rfl, ?_⟩) (HSB.o _ hbZ) ?_; rotate_left 1; focus (intro w hSw; (try dsimp only at hSw); go_simp; all_goals (with_reducible rfl)); (try simp only [Act.put, List.setIfInBounds_toArray, List.set_cons_zero, List.set_cons_succ]))
     (refine wpAnyH_take (i := 5) (v := ?_) rfl (by kernel_rfl) (by kernel_rfl) (by kernel_rfl) (fun _ _ _ h => h) (Or.inl ⟨by rfl, ?_⟩) (HSB.o _ hbZ) ?_; rotate_left 1; focus (intro w hSw; (try dsimp only at hSw); go_simp; all_goals (with_reducible rfl)); (try simp only [Act.put, List.setIfInBounds_toArray, List.set_cons_zero, List.set_cons_succ]))
     (refine wpAnyH_take (i := 6) (v := ?_) rfl (by kernel_rfl) (by kernel_rfl) (by kernel_rfl) (fun _ _ _ h => h) (Or.inl ⟨by rfl, ?_⟩) (HSB.o _ hbZ) ?_; rotate_left 1; focus (intro w hSw; (try dsimp only at hSw); go_simp; all_goals (with_reducible rfl)); (try simp only [Act.put, List.setIfInBounds_toArray, List.set_cons_zero, List.set_cons_succ]))
     (refine wpAnyH_take (i := 7) (v := ?_) rfl (by kernel_rfl) (by kernel_rfl) (by kernel_rfl) (fun _ _ _ h => h) (Or.inl ⟨by rfl, ?_⟩) (HSB.o _ hbZ) ?_; rotate_left 1; focus (intro w hSw; (try dsimp only at hSw); go_simp; all_goals (with_reducible rfl)); (try simp only [Act.put, List.setIfInBounds_toArray, List.set_cons_zero, List.set_cons_succ]))
     (refine wpAnyH_take (i := 8) (v := ?_) rfl (by kernel_rfl) (by kernel_rfl) (by kernel_rfl) (fun _ _ _ h => h) (Or.inl ⟨by rfl, ?_⟩) (HSB.o _ hbZ) ?_; rotate_left 1; focus (intro w hSw; (try dsimp only at hSw); go_simp; all_goals (with_reducible rfl)); (try simp only [Act.put, List.setIfInBounds_toArray, List.set_cons_zero, List.set_cons_succ]))
     refine wpAnyH_ready (rs := [4]) (by kernel_rfl) (by simp) ?_
     refine AllReadyH.cons rfl (fun K hK => ?_) AllReadyH.nil
     rw [if_pos (by rfl)]
     go_simp
     refine (HNU.o wr.drew).mono ?_
     rintro e wC ⟨rfl, hbc⟩
     have hbC : Below wr.heap.size wr wC := hbZ.trans (hbc.mono hbZ.size)
     simp only []
     refine hK.out _ _ (HSB.o _ hbC) (fun _ => ?_)
     clear hK K
     (try simp only [Act.put, List.setIfInBounds_toArray, List.set_cons_zero, List.set_cons_succ])
     refine wpAnyH_ready (rs := [9]) (by kernel_rfl) (by simp) ?_
     refine AllReadyH.cons rfl (fun K hK => ?_) AllReadyH.nil
     rw [if_pos (by rfl)]
     go_simp
     refine (HSZ.o wC).mono ?_
     rintro e wD ⟨he, hbd⟩
     have he' : e = .panicked [{ v := noForm, recovered := false }] := he
     subst he'
     simp only []
     exact ⟨rfl, Rdn.none_ HF.o, HB.o.trans ((hbC.trans (hbd.mono hbC.size)).mono HB.o.size)⟩
    ·have hfin := Cs.sumF_yes (us := us.map (·.1)) (acc := acc) hgo (by rw [ha]; exact hna) (by rw [hb]; exact hsb)
     rw [hF] at hfin
     have w1 := wrap_wr (v * z)
     have w2 := wrap_wr (acc + Cs.wr (v * z))
     have hr2 := wr_range (acc + Cs.wr (v * z))
     obtain ⟨P, hP⟩ : ∃ P, Cs.wr (v * z) = P := ⟨_, rfl⟩
     rw [hP] at w1 w2 hr2 hfin
     obtain ⟨T, hT⟩ : ∃ T, Cs.wr (acc + P) = T := ⟨_, rfl⟩
     rw [hT] at w2 hr2 hfin
     have HF := jQ hfin
     rw [hsb] at hsi
     have HSZ := jQ hsi
     clear hfin hF hB hR9 hRd hEW hSB hU1 hm ha hb hnu hsi hna hsb hP hT
     go_wp2_with fail
     refine wp_region_held_drew (S := fun W => (W.cell? ⟨bw, ow, none⟩ = some (.string ⟨a.toArray⟩) ∧ W.cell? ⟨bw, ow + 1, none⟩ = some (.string ⟨b.toArray⟩)) ∧ W.cell? ⟨bu, 0, none⟩ = some (.func (.func g) #[] #[])) (by kernel_rfl) (HSB.o _ hbZ) (fun _ => ?_)
     (refine wpAnyH_take (i := 0) (v := ?_) rfl (by kernel_rfl) (by kernel_rfl) (by kernel_rfl) (fun _ _ _ h => h) (Or.inl ⟨by rfl, ?_⟩) (HSB.o _ hbZ) ?_; rotate_left 1; focus (intro w hSw; (try dsimp only at hSw); go_simp; all_goals (with_reducible rfl)); (try simp only [Act.put, List.setIfInBounds_toArray, List.set_cons_zero, List.set_cons_succ]))
     (refine wpAnyH_take (i := 1) (v := ?_) rfl (by kernel_rfl) (by kernel_rfl) (by kernel_rfl) (fun _ _ _ h => h) (Or.inl ⟨by rfl, ?_⟩) (HSB.o _ hbZ) ?_; rotate_left 1; focus (intro w hSw; (try dsimp only at hSw); go_simp; all_goals (with_reducible rfl)); (try simp only [Act.put, List.setIfInBounds_toArray, List.set_cons_zero, List.set_cons_succ]))
     (refine wpAnyH_take (i := 2) (v := ?_) rfl (by kernel_rfl) (by kernel_rfl) (by kernel_rfl) (fun _ _ _ h => h) (Or.inl ⟨by rfl, ?_⟩) (HSB.o _ hbZ) ?_; rotate_left 1; focus (intro w hSw; (try dsimp only at hSw); go_simp; all_goals (with_reducible rfl)); (try simp only [Act.put, List.setIfInBounds_toArray, List.set_cons_zero, List.set_cons_succ]))
     (refine wpAnyH_take (i := 3) (v := ?_) rfl (by kernel_rfl) (by kernel_rfl) (by kernel_rfl) (fun _ _ _ h => h) (Or.inl ⟨by rfl, ?_⟩) (HSB.o _ hbZ) ?_; rotate_left 1; focus (intro w hSw; (try dsimp only at hSw); go_simp; all_goals (with_reducible rfl)); (try simp only [Act.put, List.setIfInBounds_toArray, List.set_cons_zero, List.set_cons_succ]))
     (refine wpAnyH_take (i := 5) (v := ?_) rfl (by kernel_rfl) (by kernel_rfl) (by kernel_rfl) (fun _ _ _ h => h) (Or.inl ⟨by rfl, ?_⟩) (HSB.o _ hbZ) ?_; rotate_left 1; focus (intro w hSw; (try dsimp only at hSw); go_simp; all_goals (with_reducible rfl)); (try simp only [Act.put, List.setIfInBounds_toArray, List.set_cons_zero, List.set_cons_succ]))
     (refine wpAnyH_take (i := 6) (v := ?_) rfl (by kernel_rfl) (by kernel_rfl) (by kernel_rfl) (fun _ _ _ h => h) (Or.inl ⟨by rfl, ?_⟩) (HSB.o _ hbZ) ?_; rotate_left 1; focus (intro w hSw; (try dsimp only at hSw); go_simp; all_goals (with_reducible rfl)); (try simp only [Act.put, List.setIfInBounds_toArray, List.set_cons_zero, List.set_cons_succ]))
     (refine wpAnyH_take (i := 7) (v := ?_) rfl (by kernel_rfl) (by kernel_rfl) (by kernel_rfl) (fun _ _ _ h => h) (Or.inl ⟨by rfl, ?_⟩) (HSB.o _ hbZ) ?_; rotate_left 1; focus (intro w hSw; (try dsimp only at hSw); go_simp; all_goals (with_reducible rfl)); (try simp only [Act.put, List.setIfInBounds_toArray, List.set_cons_zero, List.set_cons_succ]))
     (refine wpAnyH_take (i := 8) (v := ?_) rfl (by kernel_rfl) (by kernel_rfl) (by kernel_rfl) (fun _ _ _ h => h) (Or.inl ⟨by rfl, ?_⟩) (HSB.o _ hbZ) ?_; rotate_left 1; focus (intro w hSw; (try dsimp only at hSw); go_simp; all_goals (with_reducible rfl)); (try simp only [Act.put, List.setIfInBounds_toArray, List.set_cons_zero, List.set_cons_succ]))
     refine wpAnyH_ready (rs := [4]) (by kernel_rfl) (by simp) ?_
     refine AllReadyH.cons rfl (fun K hK => ?_) AllReadyH.nil
     rw [if_pos (by rfl)]
     go_simp
     refine (HNU.o wr.drew).mono ?_
     rintro e wC ⟨rfl, hbc⟩
     have hbC : Below wr.heap.size wr wC := hbZ.trans (hbc.mono hbZ.size)
     simp only []
     refine hK.out _ _ (HSB.o _ hbC) (fun _ => ?_)
     clear hK K
     (try simp only [Act.put, List.setIfInBounds_toArray, List.set_cons_zero, List.set_cons_succ])
     refine wpAnyH_ready (rs := [9]) (by kernel_rfl) (by simp) ?_
     refine AllReadyH.cons rfl (fun K hK => ?_) AllReadyH.nil
     rw [if_pos (by rfl)]
     go_simp
     refine (HSZ.o wC).mono ?_
     rintro e wD ⟨he, hbd⟩
     have he' : e = .returned (.int .i64 z) := he
     subst he'
     have hbD : Below wr.heap.size wr wD := hbC.trans (hbd.mono hbC.size)
     simp only []
     refine hK.out _ _ (HSB.o _ hbD) (fun _ => ?_)
     clear hK K
     (try simp only [Act.put, List.setIfInBounds_toArray, List.set_cons_zero, List.set_cons_succ])
     (refine wpAnyH_take (i := 10) (v := ?_) rfl (by kernel_rfl) (by kernel_rfl) (by kernel_rfl) (fun _ _ _ h => h) (Or.inl ⟨by rfl, ?_⟩) (HSB.o _ hbD) ?_; rotate_left 1; focus (intro w hSw; (try dsimp only at hSw); go_simp; all_goals (with_reducible rfl)); (try simp only [Act.put, List.setIfInBounds_toArray, List.set_cons_zero, List.set_cons_succ]))
     (refine wpAnyH_take (i := 11) (v := ?_) rfl (by kernel_rfl) (by kernel_rfl) (by kernel_rfl) (fun _ _ _ h => h) (Or.inl ⟨by rfl, ?_⟩) (HSB.o _ hbD) ?_; rotate_left 1; focus (intro w hSw; (try dsimp only at hSw); go_simp; all_goals (with_reducible rfl)); (try simp only [Act.put, List.setIfInBounds_toArray, List.set_cons_zero, List.set_cons_succ]))
     (refine wpAnyH_take (i := 12) (v := ?_) rfl (by kernel_rfl) (by kernel_rfl) (by kernel_rfl) (fun _ _ _ h => h) (Or.inl ⟨by rfl, ?_⟩) (HSB.o _ hbD) ?_; rotate_left 1; focus (intro w hSw; (try dsimp only at hSw); go_simp; all_goals (with_reducible rfl)); (try simp only [Act.put, List.setIfInBounds_toArray, List.set_cons_zero, List.set_cons_succ]))
     refine wpAnyH_done (by kernel_rfl) ?_ _
     go_wp2_with fail
     go_roundw
     case rel =>
      have e9 : m - 2 = ws.length - 2 * (k + 1) := by have := HM.o; omega
      refine ⟨k + 1, T, _, c' - 2, by omega, by rw [← e9], by omega, rfl, hr2.1, hr2.2, HF.o.symm, ?_, HB.o.trans (hbD.mono HB.o.size)⟩
      have h9 := (HR9.o.below hbD (Nat.le_refl _)).more hbD.size
      rw [show ws.length - 2 * (k + 1) = ws.length - 2 * k - 2 by omega, show 2 * (k + 1) = 2 * k + 2 by omega]
      exact h9
     case measure => simp; omega
  ·have hfin := Cs.sumF_few (us := us.map (·.1)) (acc := acc) (ws := ws.drop (2 * k)) (by rw [List.length_drop]; omega)
   rw [hF] at hfin
   have HF := jQ hfin
   have HB := jQ hB
   have hno : ¬ 1 < ws.length - 2 * k := by omega
   obtain ⟨m, hm⟩ : ∃ m, ws.length - 2 * k = m := ⟨_, rfl⟩
   rw [hm] at hc' hno
   rw [hm]
   clear hF hfin hRd hB hm hgo
   go_wp2_with fail
   go_ret
   exact ⟨Rdn.some_ HF.o, HB.o⟩
end

section
open Go.RowKit Go.Shelf
theorem split_any (s : Cs.Bs) (hs : s.length ≤ 1000000) (w : World) (hE : Env w) :
  Calls Tryz.prog 300 #[.string ⟨s.toArray⟩, .string ⟨#[32]⟩, .int .i64 8] w fun e w' => ∃ A c, e = .returned (.slice A (Lib.splitN s [32] 8).length c) ∧ (Lib.splitN s [32] 8).length ≤ c ∧ Rd w' w'.heap.size 1 A (Lib.splitN s [32] 8).length (wcells (Lib.splitN s [32] 8)) ∧ Below w.heap.size w w' := by
 obtain ⟨m, hm⟩ := hE.mx
 have h := Tryz.strings_SplitN ⟨s.toArray⟩ ⟨#[32]⟩ 8 m w (by simp [ByteArray.size]; omega) hm (by decide) (by decide) (by decide)
 have hd := Lib.splitB_data ⟨#[32]⟩ 0 (min 8 ((⟨s.toArray⟩ : ByteArray).size + 1) - 1) ⟨s.toArray⟩
 have e1 : Lib.splitN s [32] 8 = (Lib.splitB ⟨#[32]⟩ 0 (min 8 ((⟨s.toArray⟩ : ByteArray).size + 1) - 1) ⟨s.toArray⟩).map (·.data.toList) := by
  rw [hd]
  simp [Lib.splitN, ByteArray.size]
 obtain ⟨L, hL⟩ : ∃ L, Lib.splitB ⟨#[32]⟩ 0 (min 8 ((⟨s.toArray⟩ : ByteArray).size + 1) - 1) ⟨s.toArray⟩ = L := ⟨_, rfl⟩
 have hle := Lib.splitB_length_le ⟨#[32]⟩ 0 (min 8 ((⟨s.toArray⟩ : ByteArray).size + 1) - 1) ⟨s.toArray⟩
 rw [hL] at h e1 hle
 obtain ⟨c, hc⟩ : ∃ c, min 8 ((⟨s.toArray⟩ : ByteArray).size + 1) = c := ⟨_, rfl⟩
 rw [hc] at h hle
 have hc1 : 1 ≤ c := by omega
 refine h.mono ?_
 rintro e w' ⟨he, rfl⟩
 refine ⟨some ⟨w.heap.size, 0, none⟩, c, by rw [he, e1, List.length_map], by rw [e1, List.length_map]; omega, ?_, (Below.refl _ _).alloc (Nat.le_refl _) _⟩
 rw [e1]
 refine ⟨by simp [wcells], fun hp => ⟨_, _, rfl, by simp, fun j hj => ?_⟩⟩
 have hj' : j < L.length := by simpa using hj
 rw [(Bk.new w _ _).cell]
 simp [Lib.cellsOf, wcells, sv, hj', List.getElem?_append_left]
theorem read1_panicking (b6 b7 : Nat) (x y : Value) (u : TypeId) (pv : Value) (w : World) (h6 : w.cell? ⟨b6, 0, none⟩ = some x) (f6 : w.frozen? ⟨b6, 0, none⟩ = false) (h7 : (w.setCell ⟨b6, 0, none⟩ (.int .i64 0)).cell? ⟨b7, 0, none⟩ = some y) (f7 : (w.setCell ⟨b6, 0, none⟩ (.int .i64 0)).frozen? ⟨b7, 0, none⟩ = false) :
  CallsD Tryz.prog 299 #[.pointer (some ⟨b6, 0, none⟩), .pointer (some ⟨b7, 0, none⟩)] (.panicking [{ v := .iface u pv, recovered := false }]) w fun e u' w' =>
   e = .returned (.tuple #[]) ∧ u' = .panicking [{ v := .iface u pv, recovered := true }] ∧ w' = (w.setCell ⟨b6, 0, none⟩ (.int .i64 0)).setCell ⟨b7, 0, none⟩ (.int .i64 4) := by
 refine callsD_of_wpS Tryz.func299 rfl fun c₀ cs hu => ?_
 apply wpS_seq
 apply wpS_region
 simp [wpOpsS, go_sem, recoverD, hu, Tryz.ntmps299, Exit.thenS]
 refine wpS_cond (t := true) (by simp [Act.eval, Array.replicate]) ?_
 simp only [if_true]
 apply wpS_region
 simp [wpOpsS, go_sem, h6, f6, h7, f7, bodyPostS, results, Tryz.results299]
theorem read1_idle (b6 b7 : Nat) (w : World) :
  CallsD Tryz.prog 299 #[.pointer (some ⟨b6, 0, none⟩), .pointer (some ⟨b7, 0, none⟩)] .returning w fun e u' w' => e = .returned (.tuple #[]) ∧ u' = .returning ∧ w' = w := by
 refine callsD_of_wpS Tryz.func299 rfl fun c₀ cs hu => ?_
 apply wpS_seq
 apply wpS_region
 simp [wpOpsS, go_sem, recoverD, hu, Tryz.ntmps299, Exit.thenS]
 refine wpS_cond (t := false) (by simp [Act.eval, Array.replicate]) ?_
 simp only [Bool.false_eq_true, if_false]
 refine wpS_of_wp (wp_skip ?_)
 cases c₀
 simp_all [bodyPostS, results, Tryz.results299]
theorem split_short {s : Cs.Bs} {n : Nat} (hs : s.length ≤ n) : ∀ x ∈ Lib.splitN s [32] 8, x.length ≤ n := by
  have key : ∀ (k : Nat) (s : Cs.Bs), s.length ≤ n → ∀ x ∈ Lib.splitK [32] 0 k s, x.length ≤ n := fun k => by
    induction k with
    | zero =>
      intro s hs x hx
      rw [Lib.splitK, List.mem_singleton] at hx
      rw [hx]; exact hs
    | succ k ih =>
      intro s hs x hx
      rw [Lib.splitK] at hx
      split at hx
      · rw [List.mem_singleton] at hx
        rw [hx]; exact hs
      · rcases List.mem_cons.1 hx with hx | hx
        · rw [hx, List.length_take]; omega
        · exact ih _ (by rw [List.length_drop]; omega) x hx
  exact key _ s hs
theorem split_pos (s : Cs.Bs) : 0 < (Lib.splitN s [32] 8).length := by
  have key : ∀ (k : Nat) (s : Cs.Bs), 0 < (Lib.splitK [32] 0 k s).length := fun k s => by
    cases k with
    | zero => simp [Lib.splitK]
    | succ k =>
      rw [Lib.splitK]
      split <;> simp
  exact key _ s
theorem results_cells2 {P : Program} {fn : Func} {p q : Tmp} {ty ty2 : TypeId} (h : fn.results = #[.cell p ty, .cell q ty2]) (tmps : Array Value) (w : World) (g g2 : Nat) (v v2 : Value) (hp : tmps.getD p undef = .pointer (some ⟨g, 0, none⟩)) (hq : tmps.getD q undef = .pointer (some ⟨g2, 0, none⟩))
  (hc : w.cell? ⟨g, 0, none⟩ = some v) (hc2 : w.cell? ⟨g2, 0, none⟩ = some v2) (ha : ∀ w, (isAgg ty).run P w = .ok false w) (ha2 : ∀ w, (isAgg ty2).run P w = .ok false w) : (results fn tmps).run P w = .ok (.tuple #[v, v2]) w := by
 have hp' : tmps[p]?.getD undef = .pointer (some ⟨g, 0, none⟩) := by simpa using hp
 have hq' : tmps[q]?.getD undef = .pointer (some ⟨g2, 0, none⟩) := by simpa using hq
 simp [results, h, hp', hq', asAddr, go_sem, hc, hc2, ha, ha2, Result.andThen]
theorem read_any (kf kw : Nat) (capS : Array Value) (say : List Cs.Bs → Option Int) (write : Int → Cs.Bs) (s : Cs.Bs) (hs : s.length ≤ 1000000) (w : World) (hE : Env w)
  (hsay : ∀ A c ws W, Below w.heap.size w W → Env W → Rd W W.heap.size 1 A ws.length (wcells ws) → ws.length ≤ c → ws.length ≤ 8 → (∀ x ∈ ws, x.length ≤ 1000000) → 0 < ws.length → Calls Tryz.prog kf (#[.slice A ws.length c] ++ capS) W fun e w' => Rdn (say ws) e ∧ Below W.heap.size W w')
  (hwrite : ∀ n W, Env W → Calls Tryz.prog kw #[.int .i64 n] W fun e w' => e = .returned (sv (write n)) ∧ Below W.heap.size W w')
  (ef : ∀ args w, (callFunc kf args).run Tryz.prog w = .ok (.enter kf args) w) (ew : ∀ args w, (callFunc kw args).run Tryz.prog w = .ok (.enter kw args) w) :
  Calls Tryz.prog 279 #[sv s, .func (.func kf) #[] capS, .func (.func kw) #[] #[]] w fun e w' => e = .returned (.tuple #[.int .i64 (Cs.readF say write s).1, .int .i64 (Cs.readF say write s).2]) ∧ Below w.heap.size w w' := by
 have hmf : ∀ (fn : Fn) (first cap : Array Value) (w : World), (Instr.makeFunc fn first cap).run Tryz.prog w = .ok (.func fn first cap) w := fun _ _ _ _ => rfl
 have hB0 := ((Below.refl w.heap.size w).alloc (Nat.le_refl _) (.cells #[.int .i64 0] 3)).alloc (by simp) (.cells #[.int .i64 0] 31)
 have kn := (Bk.new w 3 #[.int .i64 0]).alloc (.cells #[.int .i64 0] 31)
 have ke := Bk.new (w.alloc (.cells #[.int .i64 0] 3)) 31 #[.int .i64 0]
 rw [World.size_alloc] at ke
 have HSP := jQ (split_any s hs _ (hE.step hB0))
 have HSH := jQ (split_short hs)
 have hs8 : (Lib.splitN s [32] 8).length ≤ 8 := by
  have := Lib.splitB_length_le ⟨#[32]⟩ 0 (min 8 (s.length + 1) - 1) ⟨s.toArray⟩
  have hd := Lib.splitB_data ⟨#[32]⟩ 0 (min 8 (s.length + 1) - 1) ⟨s.toArray⟩
  have h2 := congrArg List.length hd
  rw [List.length_map] at h2
  have h3 : Lib.splitN s [32] 8 = Lib.splitK [32] 0 (min 8 (s.length + 1) - 1) s := rfl
  rw [h3]
  simp only [] at h2
  rw [← h2]
  omega
 have HS0 := jQ (split_pos s)
 obtain ⟨ws, hws⟩ : ∃ ws, Lib.splitN s [32] 8 = ws := ⟨_, rfl⟩
 rw [hws] at HSP HSH hs8 HS0
 have hrf : Cs.readF say write s = match say ws with | none => (0, 4) | some n => if write n = s then (n, 0) else (0, 4) := by rw [← hws]; rfl
 rw [sv_def]
 have HB0 := jQ hB0
 have KN := jQ kn
 have KE := jQ ke
 have HSAY := jQ hsay
 have HWR := jQ hwrite
 have HE := jQ hE
 rcases hsy : say ws with _ | n
 ·rw [hsy] at hrf
  simp only [] at hrf
  rw [hrf]
  have HSY := jQ hsy
  clear hrf hsy hB0 kn ke hsay hwrite hE hws
  go_enter_defers Tryz.func279, Tryz.ntmps279
  go_wp2_with fail
  refine HSP.o.mono ?_
  rintro e w1 ⟨A, c, rfl, hc, hR1, hb1⟩
  have hB1 := HB0.o.trans (hb1.mono HB0.o.size)
  have hn1 := KN.o.below hb1 (by simp; omega)
  have he1 := KE.o.below hb1 (by simp)
  have hE1 := HE.o.step hB1
  have HS1 := jQ (HSAY.o A c ws w1 hB1 hE1 hR1 hc hs8 HSH.o HS0.o)
  have HB1 := jQ hB1
  have HE1 := jQ hE1
  have HN1 := jQ hn1
  have HE2 := jQ he1
  clear hB1 hn1 he1 hE1 hR1 hb1 hc
  go_wp2_with fail
  refine HS1.o.mono ?_
  rintro e w2 ⟨he, hb2⟩
  rw [HSY.o] at he
  have he' : e = .panicked [{ v := noForm, recovered := false }] := he
  subst he'
  clear he
  have kn2 := HN1.o.below hb2 HN1.o.lt
  have ke2 := HE2.o.below hb2 HE2.o.lt
  have HB2 := jQ (HB1.o.trans (hb2.mono HB1.o.size))
  clear hb2
  simp only []
  refine leaves_cons (f := 299) (args := #[.pointer (some ⟨w.heap.size, 0, none⟩), .pointer (some ⟨w.heap.size + 1, 0, none⟩)]) (by simp) (by simp [go_sem]) ?_
  refine (read1_panicking w.heap.size (w.heap.size + 1) _ _ _ _ _ ((kn2.cell 0).trans rfl) (kn2.frozen 0) (((ke2.far (p := ⟨w.heap.size, 0, none⟩) (by simp) _).cell 0).trans rfl) ((ke2.far (p := ⟨w.heap.size, 0, none⟩) (by simp) _).frozen 0)).mono ?_
  rintro e u' w'' ⟨rfl, rfl, rfl⟩
  have k6 := (kn2.set 0 (.int .i64 0)).far (p := ⟨w.heap.size + 1, 0, none⟩) (by simp) (.int .i64 4)
  have k7 := (ke2.far (p := ⟨w.heap.size, 0, none⟩) (by simp) (.int .i64 0)).set 0 (.int .i64 4)
  refine ⟨_, results_cells2 rfl _ _ w.heap.size (w.heap.size + 1) _ _ rfl rfl ((k6.cell 0).trans rfl) ((k7.cell 0).trans rfl) Tryz.isAgg3 Tryz.isAgg31, rfl, (HB2.o.setCell (p := ⟨w.heap.size, 0, none⟩) (by simp) _).setCell (p := ⟨w.heap.size + 1, 0, none⟩) (by simp) _⟩
 ·have HSY := jQ hsy
  have hwr := fun W h => hwrite n W h
  rw [sv_def] at hwr
  obtain ⟨T, hT⟩ : ∃ T, write n = T := ⟨_, rfl⟩
  have hrf2 : Cs.readF say write s = if T = s then (n, 0) else (0, 4) := by rw [hrf, hsy, ← hT]
  rw [hrf2]
  obtain ⟨R, hR⟩ : ∃ R : Int × Int, (if T = s then (n, 0) else (0, 4)) = R := ⟨_, rfl⟩
  rw [hR]
  have HRES := jQ hR
  clear hR
  rw [hT] at hwr
  have HWN := jQ hwr
  clear hrf hrf2 hsy hB0 kn ke hsay hwrite hE hws hT hwr HWR
  go_enter_defers Tryz.func279, Tryz.ntmps279
  go_wp2_with fail
  refine HSP.o.mono ?_
  rintro e w1 ⟨A, c, rfl, hc, hR1, hb1⟩
  have hB1 := HB0.o.trans (hb1.mono HB0.o.size)
  have hn1 := KN.o.below hb1 (by simp; omega)
  have he1 := KE.o.below hb1 (by simp)
  have hE1 := HE.o.step hB1
  have HS1 := jQ (HSAY.o A c ws w1 hB1 hE1 hR1 hc hs8 HSH.o HS0.o)
  have HB1 := jQ hB1
  have HE1 := jQ hE1
  have HN1 := jQ hn1
  have HE2 := jQ he1
  clear hB1 hn1 he1 hE1 hR1 hb1 hc
  go_wp2_with fail
  refine HS1.o.mono ?_
  rintro e w2 ⟨he, hb2⟩
  rw [HSY.o] at he
  have he' : e = .returned (.int .i64 n) := he
  subst he'
  clear he
  have kn2 := (HN1.o.below hb2 HN1.o.lt)
  have KE2 := jQ ((HE2.o.below hb2 HE2.o.lt).far (p := ⟨w.heap.size, 0, none⟩) (by simp) (.int .i64 n))
  have hB2 := HB1.o.trans (hb2.mono HB1.o.size)
  have HB3 := jQ (hB2.setCell (p := ⟨w.heap.size, 0, none⟩) (by simp) (.int .i64 n))
  have HK3 := jQ (kn2.set 0 (.int .i64 n))
  have n0 := (kn2.cell 0).trans rfl
  have f0 := kn2.frozen 0
  have l0 := kn2.lt
  clear kn2 hB2 hb2
  simp only []
  go_wp2_with fail
  have HE3 := jQ (HE.o.step HB3.o)
  refine (HWN.o _ HE3.o).mono ?_
  rintro e w4 ⟨rfl, hb4⟩
  have k4 := HK3.o.below hb4 HK3.o.lt
  have e4 := KE2.o.below hb4 KE2.o.lt
  have HB4 := jQ (HB3.o.trans (hb4.mono HB3.o.size))
  clear hb4 n0 f0 l0
  rcases hq : (T == s) with _ | _
  ·have hne : ¬ T = s := by simpa using hq
   have HR4 := jQ (show R = (0, 4) by rw [← HRES.o, if_neg hne])
   have KN4 := jQ k4
   have KE4 := jQ e4
   clear hne k4 e4
   go_wp2_with fail
   refine leaves_cons (f := 299) (args := #[.pointer (some ⟨w.heap.size, 0, none⟩), .pointer (some ⟨w.heap.size + 1, 0, none⟩)]) (by simp) (by simp [go_sem]) ?_
   refine (read1_panicking w.heap.size (w.heap.size + 1) _ _ _ _ _ ((KN4.o.cell 0).trans rfl) (KN4.o.frozen 0) (((KE4.o.far (p := ⟨w.heap.size, 0, none⟩) (by simp) _).cell 0).trans rfl) ((KE4.o.far (p := ⟨w.heap.size, 0, none⟩) (by simp) _).frozen 0)).mono ?_
   rintro e u' w'' ⟨rfl, rfl, rfl⟩
   have k6 := (KN4.o.set 0 (.int .i64 0)).far (p := ⟨w.heap.size + 1, 0, none⟩) (by simp) (.int .i64 4)
   have k7 := (KE4.o.far (p := ⟨w.heap.size, 0, none⟩) (by simp) (.int .i64 0)).set 0 (.int .i64 4)
   refine ⟨_, results_cells2 rfl _ _ w.heap.size (w.heap.size + 1) _ _ rfl rfl ((k6.cell 0).trans rfl) ((k7.cell 0).trans rfl) Tryz.isAgg3 Tryz.isAgg31, by have h := HR4.o; subst h; rfl, (HB4.o.setCell (p := ⟨w.heap.size, 0, none⟩) (by simp) _).setCell (p := ⟨w.heap.size + 1, 0, none⟩) (by simp) _⟩
  ·have heq : T = s := by simpa using hq
   have HR4 := jQ (show R = (n, 0) by rw [← HRES.o, if_pos heq])
   have n0 := (k4.cell 0).trans rfl
   have f0 := k4.frozen 0
   have l0 := k4.lt
   have g0 := (e4.cell 0).trans rfl
   have g1 := e4.frozen 0
   have lg := e4.lt
   have KN4 := jQ k4
   have KE4 := jQ e4
   clear heq k4 e4
   go_wp2_with fail
   refine leaves_cons (f := 299) (args := #[.pointer (some ⟨w.heap.size, 0, none⟩), .pointer (some ⟨w.heap.size + 1, 0, none⟩)]) (by simp) (by simp [go_sem]) ?_
   refine (read1_idle w.heap.size (w.heap.size + 1) _).mono ?_
   rintro e u' w'' ⟨rfl, rfl, rfl⟩
   have k6 := (KN4.o.set 0 (.int .i64 n)).far (p := ⟨w.heap.size + 1, 0, none⟩) (by simp) (.int .i64 0)
   have k7 := (KE4.o.far (p := ⟨w.heap.size, 0, none⟩) (by simp) (.int .i64 n)).set 0 (.int .i64 0)
   refine ⟨_, results_cells2 rfl _ _ w.heap.size (w.heap.size + 1) _ _ rfl rfl ((k6.cell 0).trans rfl) ((k7.cell 0).trans rfl) Tryz.isAgg3 Tryz.isAgg31, by have h := HR4.o; subst h; rfl, (HB4.o.setCell (p := ⟨w.heap.size, 0, none⟩) (by simp) _).setCell (p := ⟨w.heap.size + 1, 0, none⟩) (by simp) _⟩
end

section
open Go.RowKit Go.Shelf
theorem sumM_any (g : Nat) (w : World) :
  Calls Tryz.prog 280 #[.func (.func g) #[] #[]] w fun e w' => e = .returned (.func (.func 301) #[] #[.pointer (some ⟨w.heap.size, 0, none⟩)]) ∧ w' = w.alloc (.cells #[.func (.func g) #[] #[]] 301) := by
 have hmf : ∀ (fn : Fn) (first cap : Array Value) (w : World), (Instr.makeFunc fn first cap).run Tryz.prog w = .ok (.func fn first cap) w := fun _ _ _ _ => rfl
 go_enter Tryz.func280, Tryz.ntmps280
 go_wp2
 go_ret
 exact ⟨rfl, rfl⟩
theorem Links_any (s : Cs.Bs) (hs : s.length ≤ 1000000) (w : World) (hE : Env w) :
  Calls Tryz.prog 264 #[sv s] w fun e w' => e = .returned (.tuple #[.int .i64 (Cs.lnkF s).1, .int .i64 (Cs.lnkF s).2]) ∧ Below w.heap.size w w' := by
 have hB0 := (Below.refl w.heap.size w).alloc (Nat.le_refl _) (.cells #[.func (.func 281) #[] #[]] 301)
 have kU := Bk.new w 301 #[.func (.func 281) #[] #[]]
 have hrd := read_any 301 282 #[.pointer (some ⟨w.heap.size, 0, none⟩)] (Cs.sumF Cs.lenU 0) Cs.lenF s hs _ (hE.step hB0)
  (fun A c ws W hb hEW hR hc hn hl _ => sum1_any 281 lenO (fun n h Kp w => lengths_stops n h Kp w) (enters_of Tryz.func281 (by kernel_rfl) rfl) w.heap.size _ A c ws W hEW (kU.below hb (by simp)) hR hc (by omega) hl)
  (fun n W h => Length_any n W h) (enters_of Tryz.func301 (by kernel_rfl) rfl) (enters_of Tryz.func282 (by kernel_rfl) rfl)
 have e1 : Cs.readF (Cs.sumF Cs.lenU 0) Cs.lenF s = Cs.lnkF s := rfl
 rw [e1] at hrd
 obtain ⟨⟨n, er⟩, hr⟩ : ∃ q, Cs.lnkF s = q := ⟨_, rfl⟩
 rw [hr] at hrd ⊢
 rw [sv_def] at hrd ⊢
 have HB0 := jQ hB0
 have HRD := jQ hrd
 clear hB0 kU hrd e1 hr hE
 go_enter Tryz.func264, Tryz.ntmps264
 go_wp2_with (go_at_call 280; refine (sumM_any _ _).mono ?_; rintro e w' ⟨rfl, rfl⟩)
 refine HRD.o.mono ?_
 rintro e w1 ⟨rfl, hb1⟩
 have HB1 := jQ (HB0.o.trans (hb1.mono HB0.o.size))
 clear hb1
 go_wp2_with fail
 go_ret2
 exact ⟨rfl, HB1.o⟩
end

section
open Go.RowKit
structure FRw (w : World) (B : Nat) (v : Fv) (f : Dd.Fd) : Prop where
 st : Rd w B 2 v.a1 f.st.length (scells f.st)
 li : Rd w B 1 v.a2 f.li.length (wcells f.li)
 pa : Rd w B 4 v.a3 f.pa.length (pcells f.pa)
 va : Rd w B 2 v.a4 f.va.length (vcells f.va)
 k1 : f.st.length ≤ v.c1
 k2 : f.li.length ≤ v.c2
 k3 : f.pa.length ≤ v.c3
 l1 : f.st.length ≤ 9223372036854775807
 l2 : f.li.length ≤ 9223372036854775807
 l3 : f.pa.length ≤ 9223372036854775807
 l4 : f.va.length ≤ 9223372036854775807
 n1 : ∀ s ∈ f.st, s.1.length ≤ 9223372036854775807
 n2 : ∀ s ∈ f.li, s.length ≤ 9223372036854775807
 n3 : ∀ p ∈ f.pa, p.name.length ≤ 9223372036854775807
theorem FRw.below {w w' : World} {B C : Nat} {v : Fv} {f : Dd.Fd} (h : FRw w B v f) (hb : Below C w w') (hC : B ≤ C) : FRw w' B v f :=
 ⟨h.st.below hb hC, h.li.below hb hC, h.pa.below hb hC, h.va.below hb hC, h.k1, h.k2, h.k3, h.l1, h.l2, h.l3, h.l4, h.n1, h.n2, h.n3⟩
def Dd.longN (s : Cs.Bs) : Bool := decide (100 < s.length)
def Dd.bigF (f : Dd.Fd) : Bool := decide (20 < f.st.length) || (decide (20 < f.li.length) || (decide (60 < f.pa.length) || decide (60 < f.va.length)))
def Dd.vastF (f : Dd.Fd) : Bool := Dd.bigF f || ((f.st.any fun s => Dd.longN s.1) || ((f.li.any Dd.longN) || (f.pa.any fun p => Dd.longN p.name)))
theorem Dd.longN_no {s : Cs.Bs} (h : Dd.longN s = false) : s.length ≤ 100 := by simpa [Dd.longN] using h
theorem FRw.small {w : World} {B : Nat} {v : Fv} {f : Dd.Fd} (h : FRw w B v f) (hv : Dd.vastF f = false) : FRd w B v f := by
 unfold Dd.vastF Dd.bigF at hv
 simp only [Bool.or_eq_false_iff, decide_eq_false_iff_not, List.any_eq_false] at hv
 obtain ⟨⟨a1, a2, a3, a4⟩, b1, b2, b3⟩ := hv
 exact ⟨h.st, h.li, h.pa, h.va, h.k1, h.k2, h.k3, by omega, by omega, by omega, by omega,
  fun s hs => Nat.le_trans (Dd.longN_no (by simpa using b1 s hs)) (by decide), fun s hs => Nat.le_trans (Dd.longN_no (by simpa using b2 s hs)) (by decide), fun s hs => Nat.le_trans (Dd.longN_no (by simpa using b3 s hs)) (by decide)⟩
theorem vast_any (v : Fv) (f : Dd.Fd) (w : World) (hF : FRw w w.heap.size v f) :
  Calls Tryz.prog 7 #[fval v f] w fun e w' => e = .returned (.bool (Dd.vastF f)) ∧ Below w.heap.size w w' := by
 have hrf : Dd.vastF f = (Dd.bigF f || ((f.st.any fun s => Dd.longN s.1) || ((f.li.any Dd.longN) || (f.pa.any fun p => Dd.longN p.name)))) := rfl
 have hbf : Dd.bigF f = (decide (20 < f.st.length) || (decide (20 < f.li.length) || (decide (60 < f.pa.length) || decide (60 < f.va.length)))) := rfl
 have hl1 := hF.l1
 have hl2 := hF.l2
 have hl3 := hF.l3
 have hl4 := hF.l4
 have HF := jQ hF
 have hfv : fval v f = .agg #[.slice v.a1 f.st.length v.c1, .slice v.a2 f.li.length v.c2, .slice v.a3 f.pa.length v.c3, .slice v.a4 f.va.length v.c4] := rfl
 rw [hfv]
 clear hF hfv
 obtain ⟨R, hR⟩ : ∃ R, Dd.vastF f = R := ⟨_, rfl⟩
 rw [hR] at hrf ⊢
 clear hR
 by_cases a1 : 20 < f.st.length
 ·have hr : R = true := by rw [hrf, hbf, decide_eq_true a1]; rfl
  have HR := jQ hr
  have d1 : decide ((f.st.length : Int) > 20) = true := decide_eq_true (by omega)
  clear hr hrf hbf
  go_enter Tryz.func7, Tryz.ntmps7
  go_wp2_with fail
  go_ret
  exact ⟨ret_bool HR.o.symm, (Below.refl _ _).alloc (Nat.le_refl _) _⟩
 by_cases a2 : 20 < f.li.length
 ·have hr : R = true := by rw [hrf, hbf, decide_eq_true a2]; simp
  have HR := jQ hr
  have d1 : decide ((f.st.length : Int) > 20) = false := decide_eq_false (by omega)
  have d2 : decide ((f.li.length : Int) > 20) = true := decide_eq_true (by omega)
  clear hr hrf hbf
  go_enter Tryz.func7, Tryz.ntmps7
  go_wp2_with fail
  go_ret
  exact ⟨ret_bool HR.o.symm, (Below.refl _ _).alloc (Nat.le_refl _) _⟩
 by_cases a3 : 60 < f.pa.length
 ·have hr : R = true := by rw [hrf, hbf, decide_eq_true a3]; simp
  have HR := jQ hr
  have d1 : decide ((f.st.length : Int) > 20) = false := decide_eq_false (by omega)
  have d2 : decide ((f.li.length : Int) > 20) = false := decide_eq_false (by omega)
  have d3 : decide ((f.pa.length : Int) > 60) = true := decide_eq_true (by omega)
  clear hr hrf hbf
  go_enter Tryz.func7, Tryz.ntmps7
  go_wp2_with fail
  go_ret
  exact ⟨ret_bool HR.o.symm, (Below.refl _ _).alloc (Nat.le_refl _) _⟩
 by_cases a4 : 60 < f.va.length
 ·have hr : R = true := by rw [hrf, hbf, decide_eq_true a4]; simp
  have HR := jQ hr
  have d1 : decide ((f.st.length : Int) > 20) = false := decide_eq_false (by omega)
  have d2 : decide ((f.li.length : Int) > 20) = false := decide_eq_false (by omega)
  have d3 : decide ((f.pa.length : Int) > 60) = false := decide_eq_false (by omega)
  have d4 : decide ((f.va.length : Int) > 60) = true := decide_eq_true (by omega)
  clear hr hrf hbf
  go_enter Tryz.func7, Tryz.ntmps7
  go_wp2_with fail
  go_ret
  exact ⟨ret_bool HR.o.symm, (Below.refl _ _).alloc (Nat.le_refl _) _⟩
 rw [hbf, decide_eq_false a1, decide_eq_false a2, decide_eq_false a3, decide_eq_false a4, Bool.false_or, Bool.false_or, Bool.false_or, Bool.false_or] at hrf
 have HR := jQ hrf
 have d1 : decide ((f.st.length : Int) > 20) = false := decide_eq_false (by omega)
 have d2 : decide ((f.li.length : Int) > 20) = false := decide_eq_false (by omega)
 have d3 : decide ((f.pa.length : Int) > 60) = false := decide_eq_false (by omega)
 have d4 : decide ((f.va.length : Int) > 60) = false := decide_eq_false (by omega)
 clear hrf hbf
 go_enter Tryz.func7, Tryz.ntmps7
 go_wp2_with fail
 have HB := jQ ((Below.refl w.heap.size w).alloc (Nat.le_refl _) (.cells #[.slice v.a1 f.st.length v.c1, .slice v.a2 f.li.length v.c2, .slice v.a3 f.pa.length v.c3, .slice v.a4 f.va.length v.c4] 27))
 have k0 := Bk.new w 27 #[.slice v.a1 f.st.length v.c1, .slice v.a2 f.li.length v.c2, .slice v.a3 f.pa.length v.c3, .slice v.a4 f.va.length v.c4]
 have f0 := (k0.cell 0).trans rfl
 have f1 := (k0.cell 1).trans rfl
 have f2 := (k0.cell 2).trans rfl
 have kl := k0.lt
 obtain ⟨W, hW⟩ : ∃ W, w.alloc (.cells #[.slice v.a1 f.st.length v.c1, .slice v.a2 f.li.length v.c2, .slice v.a3 f.pa.length v.c3, .slice v.a4 f.va.length v.c4] 27) = W := ⟨_, rfl⟩
 rw [hW] at HB f0 f1 f2 kl ⊢
 clear hW k0
 go_loop [3] (fun I => ∃ k : Nat, k ≤ f.st.length ∧ I = .int .i64 k ∧ ∀ j (h : j < f.st.length), j < k → Dd.longN f.st[j].1 = false) (fun I => f.st.length - (intOf I).toNat)
 case atStart => exact ⟨0, Nat.zero_le _, rfl, fun j h hj => absurd hj (by omega)⟩
 case round =>
  obtain ⟨k, hk, rfl, ha⟩ := hrel
  have HA := jQ ha
  clear ha
  by_cases hlt : k < f.st.length
  ·obtain ⟨b, off, ha1, hb, e0, e1⟩ := (HF.o.st.below HB.o (Nat.le_refl _)).station hlt
   have hb2 : b < W.heap.size := Nat.lt_of_lt_of_le hb HB.o.size
   have hnl := HF.o.n1 _ (List.getElem_mem hlt)
   obtain ⟨x, hx⟩ : ∃ x, f.st[k] = x := ⟨_, rfl⟩
   rw [hx] at e0 e1 hnl
   have HX := jQ hx
   by_cases hn : 100 < x.1.length
   ·have hno : R = true := by
     rw [HR.o]
     have : (f.st.any fun s => Dd.longN s.1) = true := List.any_eq_true.2 ⟨x, by rw [← HX.o]; exact List.getElem_mem hlt, decide_eq_true hn⟩
     rw [this]
     rfl
    have HNO := jQ hno
    have d5 : decide ((x.1.length : Int) > 100) = true := decide_eq_true (by omega)
    clear hno hx
    rw [ha1]
    go_wp2_with fail
    go_ret
    exact ⟨ret_bool HNO.o.symm, HB.o⟩
   ·have d5 : decide ((x.1.length : Int) > 100) = false := decide_eq_false (by omega)
    have HD := jQ (show Dd.longN x.1 = false from decide_eq_false hn)
    clear hx
    rw [ha1]
    go_wp2_with fail
    go_round
    case rel =>
     refine ⟨k + 1, by omega, by go_num, fun j h hj => ?_⟩
     by_cases e : j = k
     ·subst e
      rw [HX.o]
      exact HD.o
     ·exact HA.o j h (by omega)
    case measure => simp [intOf]; omega
  ·obtain rfl : k = f.st.length := by omega
   have hst : (f.st.any fun s => Dd.longN s.1) = false := by
    rw [List.any_eq_false]
    intro x hx
    obtain ⟨i, hi, rfl⟩ := List.getElem_of_mem hx
    simpa using HA.o i hi hi
   have hrf := HR.o
   rw [hst, Bool.false_or] at hrf
   have HR2 := jQ hrf
   clear hrf hst HR HA
   go_wp2_with fail
   go_loop [4] (fun I => ∃ k : Nat, k ≤ f.li.length ∧ I = .int .i64 k ∧ ∀ j (h : j < f.li.length), j < k → Dd.longN f.li[j] = false) (fun I => f.li.length - (intOf I).toNat)
   case atStart => exact ⟨0, Nat.zero_le _, rfl, fun j h hj => absurd hj (by omega)⟩
   case round =>
    obtain ⟨k, hk, rfl, ha⟩ := hrel
    have HA := jQ ha
    clear ha
    by_cases hlt : k < f.li.length
    ·obtain ⟨b, off, ha1, hb, e0⟩ := (HF.o.li.below HB.o (Nat.le_refl _)).text hlt
     have hb2 : b < W.heap.size := Nat.lt_of_lt_of_le hb HB.o.size
     have hnl := HF.o.n2 _ (List.getElem_mem hlt)
     obtain ⟨x, hx⟩ : ∃ x, f.li[k] = x := ⟨_, rfl⟩
     rw [hx] at e0 hnl
     have HX := jQ hx
     by_cases hn : 100 < x.length
     ·have hno : R = true := by
       rw [HR2.o]
       have : (f.li.any Dd.longN) = true := List.any_eq_true.2 ⟨x, by rw [← HX.o]; exact List.getElem_mem hlt, decide_eq_true hn⟩
       rw [this]
       rfl
      have HNO := jQ hno
      have d5 : decide ((x.length : Int) > 100) = true := decide_eq_true (by omega)
      clear hno hx
      rw [ha1]
      go_wp2_with fail
      go_ret
      exact ⟨ret_bool HNO.o.symm, HB.o⟩
     ·have d5 : decide ((x.length : Int) > 100) = false := decide_eq_false (by omega)
      have HD := jQ (show Dd.longN x = false from decide_eq_false hn)
      clear hx
      rw [ha1]
      go_wp2_with fail
      go_round
      case rel =>
       refine ⟨k + 1, by omega, by go_num, fun j h hj => ?_⟩
       by_cases e : j = k
       ·subst e
        rw [HX.o]
        exact HD.o
       ·exact HA.o j h (by omega)
      case measure => simp [intOf]; omega
    ·obtain rfl : k = f.li.length := by omega
     have hst : (f.li.any Dd.longN) = false := by
      rw [List.any_eq_false]
      intro x hx
      obtain ⟨i, hi, rfl⟩ := List.getElem_of_mem hx
      simpa using HA.o i hi hi
     have hrf := HR2.o
     rw [hst, Bool.false_or] at hrf
     have HR3 := jQ hrf
     clear hrf hst HR2 HA
     go_wp2_with fail
     go_loop [5] (fun I => ∃ k : Nat, k ≤ f.pa.length ∧ I = .int .i64 k ∧ ∀ j (h : j < f.pa.length), j < k → Dd.longN f.pa[j].name = false) (fun I => f.pa.length - (intOf I).toNat)
     case atStart => exact ⟨0, Nat.zero_le _, rfl, fun j h hj => absurd hj (by omega)⟩
     case round =>
      obtain ⟨k, hk, rfl, ha⟩ := hrel
      have HA := jQ ha
      clear ha
      by_cases hlt : k < f.pa.length
      ·obtain ⟨b, off, ha1, hb, e0, e1, e2, e3⟩ := (HF.o.pa.below HB.o (Nat.le_refl _)).parcel hlt
       have hb2 : b < W.heap.size := Nat.lt_of_lt_of_le hb HB.o.size
       have hnl := HF.o.n3 _ (List.getElem_mem hlt)
       obtain ⟨x, hx⟩ : ∃ x, f.pa[k] = x := ⟨_, rfl⟩
       rw [hx] at e0 e1 e2 e3 hnl
       have HX := jQ hx
       by_cases hn : 100 < x.name.length
       ·have hno : R = true := by
         rw [HR3.o]
         exact List.any_eq_true.2 ⟨x, by rw [← HX.o]; exact List.getElem_mem hlt, decide_eq_true hn⟩
        have HNO := jQ hno
        have d5 : decide ((x.name.length : Int) > 100) = true := decide_eq_true (by omega)
        clear hno hx
        rw [ha1]
        go_wp2_with fail
        go_ret
        exact ⟨ret_bool HNO.o.symm, HB.o⟩
       ·have d5 : decide ((x.name.length : Int) > 100) = false := decide_eq_false (by omega)
        have HD := jQ (show Dd.longN x.name = false from decide_eq_false hn)
        clear hx
        rw [ha1]
        go_wp2_with fail
        go_round
        case rel =>
         refine ⟨k + 1, by omega, by go_num, fun j h hj => ?_⟩
         by_cases e : j = k
         ·subst e
          rw [HX.o]
          exact HD.o
         ·exact HA.o j h (by omega)
        case measure => simp [intOf]; omega
      ·obtain rfl : k = f.pa.length := by omega
       have hst : R = false := by
        rw [HR3.o, List.any_eq_false]
        intro x hx
        obtain ⟨i, hi, rfl⟩ := List.getElem_of_mem hx
        simpa using HA.o i hi hi
       have HS := jQ hst
       clear hst HR3 HA
       go_wp2_with fail
       go_ret
       exact ⟨ret_bool HS.o.symm, HB.o⟩
end

section
open Go.ChangeShapes Go.WideShapes Go.ChangeAt Go.RowKit Go.Deep Go.Joins
theorem Tryz.cellsStr : Tryz.prog.cellsOf 9 = 1 := by kernel_rfl
theorem Tryz.cellsSta : Tryz.prog.cellsOf 66 = 2 := by kernel_rfl
theorem Tryz.cellsPar : Tryz.prog.cellsOf 68 = 4 := by kernel_rfl
theorem Tryz.cellsFld : Tryz.prog.cellsOf 27 = 4 := by kernel_rfl
theorem Tryz.cellsCal : Tryz.prog.cellsOf 48 = 13 := by kernel_rfl
theorem Tryz.cellsU8 : Tryz.prog.cellsOf 5 = 1 := by kernel_rfl
theorem Tryz.cellsS1 : Tryz.prog.cellsOf 22 = 1 := by kernel_rfl
theorem Tryz.cellsS2 : Tryz.prog.cellsOf 23 = 1 := by kernel_rfl
theorem Tryz.cellsS3 : Tryz.prog.cellsOf 24 = 1 := by kernel_rfl
theorem Tryz.cellsS4 : Tryz.prog.cellsOf 25 = 1 := by kernel_rfl
section
variable {H : Type} {enc : TypeId × Value → H} {w : World} {base : Nat} {spare : Nat → Bool} {held : Bool} {b0 : Nat} {r : Reach}
theorem els_of {α : Type} [Inhabited α] {P : Program} {cell : α → List Value} {n : Nat} {t e : TypeId} {Q : α → Prop} (ht : P.underlying t = some (.slice e)) (hce : P.cellsOf e = n) (hc : ∀ a, (cell a).length = n) (hn : 0 < n)
  (he : ∀ fuel cs x, DataW.trod enc P w base spare held fuel e cs = some x → ∃ a, cs = cell a ∧ Q a)
  {fuel : Nat} {cs : List Value} {x : DataW H × List MemPlace} (hf : DataW.trod enc P w base spare held fuel t cs = some x) :
  ∃ (A : Option Addr) (c : Nat) (ys : List α), cs = [.slice A ys.length c] ∧ Rd w w.heap.size n A ys.length (ys.flatMap cell) ∧ ys.length ≤ 9223372036854775807 ∧ ys.length ≤ c ∧ ∀ y ∈ ys, Q y := by
 rcases open_slice ht hf with ⟨hcs, hx⟩ | ⟨a, len, cap, m, k, D, Pl, hcs, _, hl, hm, hmm, hx, hel⟩
 ·exact ⟨none, 0, [], hcs, Rd.nil _ _ _ _, by simp, by simp, by simp⟩
 ·have hlm : len ≤ m := by rw [hmm]; split <;> omega
  have each : ∀ i, i < len → ∃ x : α, (∀ j, j < n → w.cell? (a.add (i * n + j)) = (cell x)[j]?) ∧ Q x := by
   intro i hi
   obtain ⟨cs', h1, h2⟩ := hel i (by omega)
   rw [hce] at h1
   obtain ⟨_, hlen, hcell⟩ := World.cells?_some h1
   obtain ⟨x, rfl, hq⟩ := he _ _ _ h2
   refine ⟨x, fun j hj => ?_, hq⟩
   have := hcell j hj
   rwa [add_add] at this
  obtain ⟨V, hV⟩ := choose_lt each
  have hlen : ((List.range len).map V).length = len := by simp
  refine ⟨some a, cap, (List.range len).map V, by rw [hlen]; exact hcs, ⟨by rw [flat_length hc], fun h0 => ?_⟩, by unfold maxLen at hm; simp; omega, by rw [hlen]; exact hl, fun b hb => ?_⟩
  ·rw [hlen] at h0 ⊢
   obtain ⟨v0, hv0⟩ : ∃ v, (cell (V 0))[0]? = some v := by
    cases hg : (cell (V 0))[0]? with
    | none => rw [List.getElem?_eq_none_iff, hc] at hg; omega
    | some v => exact ⟨v, rfl⟩
   obtain ⟨b', off', hab, hb'⟩ := plain_of_cell (((hV 0 h0).1 0 hn).trans hv0)
   obtain ⟨b, off, s⟩ := a
   obtain ⟨hb, rfl⟩ : b < w.heap.size ∧ s = none := by
    simp only [Addr.add, Nat.zero_mul, Nat.add_zero, if_true, Addr.mk.injEq] at hab
    exact ⟨by omega, hab.2.2⟩
   refine ⟨b, off, rfl, hb, fun j hj => ?_⟩
   have hdiv : j / n < len := Nat.div_lt_of_lt_mul (by rwa [Nat.mul_comm])
   have hq := (hV (j / n) hdiv).1 (j % n) (Nat.mod_lt _ hn)
   have hr := flat_at hc ((List.range len).map V) (k := j / n) (by rw [hlen]; exact hdiv) (Nat.mod_lt j hn)
   have hjn : j / n * n + j % n = j := by rw [Nat.mul_comm]; exact Nat.div_add_mod j n
   rw [hjn] at hq hr
   rw [add_plain] at hq
   simp only [List.getElem_map, List.getElem_range] at hr
   exact hq.trans hr.symm
  ·obtain ⟨i, hi, rfl⟩ := List.mem_map.1 hb
   exact (hV i (List.mem_range.1 hi)).2
theorem trod_text {fuel : Nat} {cs : List Value} {x : DataW H × List MemPlace} (h : DataW.trod enc Tryz.prog w base spare held fuel 9 cs = some x) : ∃ s : Cs.Bs, cs = [.string ⟨s.toArray⟩] ∧ s.length ≤ 9223372036854775807 := by
 obtain ⟨⟨⟨l⟩⟩, h1, _, h2⟩ := DataW.trod_string Tryz.underlying9 h
 refine ⟨l, h1, ?_⟩
 have e : (⟨⟨l⟩⟩ : ByteArray).size = l.length := rfl
 unfold maxLen at h2
 omega
theorem trod_text1 {fuel : Nat} {cs : List Value} {x : DataW H × List MemPlace} (h : DataW.trod enc Tryz.prog w base spare held fuel 9 cs = some x) : ∃ s : Cs.Bs, cs = [sv s] ∧ s.length ≤ 9223372036854775807 := trod_text h
theorem trod_station {fuel : Nat} {cs : List Value} {x : DataW H × List MemPlace} (h : DataW.trod enc Tryz.prog w base spare held fuel 66 cs = some x) : ∃ v : Cs.Bs × Int, cs = scell v ∧ v.1.length ≤ 9223372036854775807 := by
  obtain ⟨y0, y1, n, rfl, hl, g0, g1⟩ := trod_struct2 Tryz.underlying66 h
  rw [Tryz.cellsSta] at hl
  match cs, hl with
  | [v0, v1], _ =>
    simp only [Tryz.cellsInt, Tryz.cellsStr, List.drop_zero, List.drop_succ_cons, List.take_succ_cons, List.take_zero] at g0 g1
    obtain ⟨a, e0, w0⟩ := trod_text g0
    obtain ⟨b, e1, _, w1⟩ := DataW.trod_int Tryz.underlying3 g1
    simp only [List.cons.injEq, and_true] at e0 e1
    subst e0; subst e1
    exact ⟨(a, b), rfl, w0⟩
theorem trod_parcel {fuel : Nat} {cs : List Value} {x : DataW H × List MemPlace} (h : DataW.trod enc Tryz.prog w base spare held fuel 68 cs = some x) : ∃ v : Dd.Pa, cs = pcell v ∧ v.name.length ≤ 9223372036854775807 := by
  obtain ⟨xs, n, _, rfl, hl, hlen, hf⟩ := DataW.trod_struct Tryz.underlying68 h
  rw [Tryz.cellsPar] at hl
  match xs, hlen with
  | [y0, y1, y2, y3], _ =>
    have f0 := hf 0 _ rfl
    have f1 := hf 1 _ rfl
    have f2 := hf 2 _ rfl
    have f3 := hf 3 _ rfl
    match cs, hl with
    | [v0, v1, v2, v3], _ =>
      simp only [Tryz.cellsInt, Tryz.cellsStr, List.drop_zero, List.drop_succ_cons, List.take_succ_cons, List.take_zero, List.getElem?_cons_zero, List.getElem?_cons_succ] at f0 f1 f2 f3
      obtain ⟨a, e0, w0⟩ := trod_text f0
      obtain ⟨b, e1, _, w1⟩ := DataW.trod_int Tryz.underlying3 f1
      obtain ⟨c, e2, _, w2⟩ := DataW.trod_int Tryz.underlying3 f2
      obtain ⟨d, e3, _, w3⟩ := DataW.trod_int Tryz.underlying3 f3
      cases e0; cases e1; cases e2; cases e3
      exact ⟨⟨a, b, c, d⟩, rfl, w0⟩
instance : Inhabited Dd.Pa := ⟨⟨[], 0, 0, 0⟩⟩
instance : Inhabited Dd.Ca := ⟨Dd.ca0⟩
theorem u8_wf {n : Int} (h : (Lit.int .u8 n).wf = true) : 0 ≤ n ∧ n ≤ 255 := by
 simp only [Lit.wf, Bool.and_eq_true, decide_eq_true_eq] at h
 have h1 : IntKind.u8.min = 0 := by decide
 have h2 : IntKind.u8.max = 255 := by decide
 omega
def CaWf (c : Dd.Ca) : Prop := (0 ≤ c.k ∧ c.k ≤ 255) ∧ wfI c.l ∧ wfI c.o ∧ wfI c.a ∧ wfI c.b ∧ wfI c.s ∧ wfI c.e
theorem trod_call {fuel : Nat} {cs : List Value} {x : DataW H × List MemPlace} (h : DataW.trod enc Tryz.prog w base spare held fuel 48 cs = some x) : ∃ c : Dd.Ca, cs = cacell c ∧ CaWf c := by
  obtain ⟨xs, n, _, rfl, hl, hlen, hf⟩ := DataW.trod_struct Tryz.underlying48 h
  rw [Tryz.cellsCal] at hl
  match xs, hlen with
  | [y0, y1, y2, y3, y4, y5, y6, y7], _ =>
    have f0 := hf 0 _ rfl
    have f1 := hf 1 _ rfl
    have f2 := hf 2 _ rfl
    have f3 := hf 3 _ rfl
    have f4 := hf 4 _ rfl
    have f5 := hf 5 _ rfl
    have f6 := hf 6 _ rfl
    have f7 := hf 7 _ rfl
    match cs, hl with
    | [v0, v1, v2, v3, v4, v5, v6, v7, v8, v9, v10, v11, v12], _ =>
      simp only [Tryz.cellsInt, Tryz.cellsU8, Tryz.cellsCo, List.drop_zero, List.drop_succ_cons, List.take_succ_cons, List.take_zero, List.getElem?_cons_zero, List.getElem?_cons_succ] at f0 f1 f2 f3 f4 f5 f6 f7
      obtain ⟨k, e0, _, w0⟩ := DataW.trod_int Tryz.underlying5 f0
      obtain ⟨l, e1, _, w1⟩ := DataW.trod_int Tryz.underlying3 f1
      obtain ⟨o, e2, _, w2⟩ := DataW.trod_int Tryz.underlying3 f2
      obtain ⟨a, e3, _, w3⟩ := DataW.trod_int Tryz.underlying3 f3
      obtain ⟨b, e4, _, w4⟩ := DataW.trod_int Tryz.underlying3 f4
      obtain ⟨s, e5, _, w5⟩ := DataW.trod_int Tryz.underlying3 f5
      obtain ⟨e, e6, _, w6⟩ := DataW.trod_int Tryz.underlying3 f6
      obtain ⟨c, e7, _⟩ := trod_course f7
      cases e0; cases e1; cases e2; cases e3; cases e4; cases e5; cases e6
      obtain ⟨c1, c2, c3, c4, c5, c6⟩ := c
      simp only [ccell, List.cons.injEq, and_true] at e7
      obtain ⟨rfl, rfl, rfl, rfl, rfl, rfl⟩ := e7
      exact ⟨⟨k, l, o, a, b, s, e, ⟨c1, c2, c3, c4, c5, c6⟩⟩, rfl, u8_wf w0, w1, w2, w3, w4, w5, w6⟩
theorem open_call {v : Value} {d : DataW H} {p : List MemPlace} (hv : Value.okWide Tryz.prog w r b0 48 v) (h : DataW.Trod enc Tryz.prog w base spare held 48 v d p) : ∃ c : Dd.Ca, v = caval c ∧ CaWf c := by
 obtain ⟨cs, rfl, hsz⟩ := okWide_struct Tryz.underlying48 hv
 obtain ⟨fuel, hf⟩ := h
 obtain ⟨c, hc, hw⟩ := trod_call hf
 refine ⟨c, ?_, hw⟩
 have : cs.toList = cacell c := hc
 obtain ⟨l⟩ := cs
 simp only at this
 subst this
 rfl
theorem open_field {v : Value} {d : DataW H} {p : List MemPlace} (hv : Value.okWide Tryz.prog w r b0 27 v) (h : DataW.Trod enc Tryz.prog w base spare held 27 v d p) :
    ∃ (u : Fv) (f : Dd.Fd), v = fval u f ∧ FRw w w.heap.size u f := by
  obtain ⟨cs, rfl, hsz⟩ := okWide_struct Tryz.underlying27 hv
  obtain ⟨fuel, hfu⟩ := h
  obtain ⟨xs, n, _, _, hl, hlen, hf⟩ := DataW.trod_struct Tryz.underlying27 hfu
  rw [Tryz.cellsFld] at hl
  obtain ⟨cs⟩ := cs
  have hl : cs.length = 4 := hl
  match xs, hlen with
  | [y0, y1, y2, y3], _ =>
    have f0 := hf 0 _ rfl
    have f1 := hf 1 _ rfl
    have f2 := hf 2 _ rfl
    have f3 := hf 3 _ rfl
    match cs, hl with
    | [v0, v1, v2, v3], _ =>
      simp only [Value.cells, Tryz.cellsS1, Tryz.cellsS2, Tryz.cellsS3, Tryz.cellsS4, List.drop_zero, List.drop_succ_cons, List.take_succ_cons, List.take_zero, List.getElem?_cons_zero, List.getElem?_cons_succ] at f0 f1 f2 f3
      obtain ⟨A1, c1, st, e0, r1, l1, k1, n1⟩ := els_of (cell := scell) (n := 2) (Q := fun v => v.1.length ≤ 9223372036854775807) Tryz.underlying22 Tryz.cellsSta (fun _ => rfl) (by decide) (fun fuel cs x hx => trod_station hx) f0
      obtain ⟨A2, c2, li, e1, r2, l2, k2, n2⟩ := els_of (cell := fun s => [sv s]) (n := 1) (Q := fun v => v.length ≤ 9223372036854775807) Tryz.underlying23 Tryz.cellsStr (fun _ => rfl) (by decide) (fun fuel cs x hx => trod_text1 hx) f1
      obtain ⟨A3, c3, pa, e2, r3, l3, k3, n3⟩ := els_of (cell := pcell) (n := 4) (Q := fun v => v.name.length ≤ 9223372036854775807) Tryz.underlying24 Tryz.cellsPar (fun _ => rfl) (by decide) (fun fuel cs x hx => trod_parcel hx) f2
      obtain ⟨A4, c4, va, e3, r4, l4, _, _⟩ := els_of (cell := vcell) (n := 2) (Q := fun _ => True) Tryz.underlying25 Tryz.cellsVar (fun _ => rfl) (by decide) (fun fuel cs x hx => trod_variation hx) f3
      cases e0; cases e1; cases e2; cases e3
      have hw : ∀ l : List Cs.Bs, l.flatMap (fun s => [sv s]) = wcells l := fun l => by
        induction l with
        | nil => rfl
        | cons a t ih => rw [List.flatMap_cons, ih]; rfl
      rw [hw] at r2
      exact ⟨⟨A1, c1, A2, c2, A3, c3, A4, c4⟩, ⟨st, li, pa, va⟩, rfl, ⟨r1, r2, r3, r4, k1, k2, k3, l1, l2, l3, l4, n1, n2, n3⟩⟩
end
end
end Go.Proofs.YtccikcpcfdjobaaGreatDoor
