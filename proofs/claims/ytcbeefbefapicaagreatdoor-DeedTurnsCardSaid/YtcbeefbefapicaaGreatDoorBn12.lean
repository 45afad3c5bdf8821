/-
  What the claims of layer deed need of the texts Sum.
-/
import Derived.Test.YtcbeefbefapicaaGreatDoorBn10
set_option linter.unusedVariables false
set_option linter.unusedSimpArgs false
namespace Go.Proofs.YtcbeefbefapicaaGreatDoor
open Go.RowKit Go.Shelf
set_option maxRecDepth 100000
theorem wrap_wr (x : Int) : IntKind.i64.wrap x = Cs.wr x := by
 rw [IntKind.wrap_i64]
 unfold Cs.wr
 split <;> omega
theorem wr_range (x : Int) : -9223372036854775808 ≤ Cs.wr x ∧ Cs.wr x ≤ 9223372036854775807 := by
 unfold Cs.wr
 split <;> omega
theorem Rd.word {w : World} {B n : Nat} {A : Option Addr} {ws : List Cs.Bs} (h : Rd w B 1 A n (wcells ws)) {k : Nat} (hk : k < ws.length) :
  ∃ b off, A = some ⟨b, off, none⟩ ∧ b < B ∧ w.cell? ⟨b, off + k, none⟩ = some (.string ⟨ws[k].toArray⟩) := by
 have hl : ws.length = n := by have := h.1; simpa [wcells] using this
 obtain ⟨b, off, e, hb, hc⟩ := h.2 (by omega)
 refine ⟨b, off, e, hb, ?_⟩
 rw [hc k (by omega)]
 simp [wcells, hk, sv]
theorem back_words {B m c b off : Nat} {ws : List Cs.Bs} {w0 : World} (h : Rd w0 B 1 (some ⟨b, off, none⟩) m (wcells ws)) (hc : m ≤ c) (i : Nat) (hi0 : 0 < i) (hi : i ≤ m) :
  Rd w0 B 1 (if c = i then some ⟨b, off, none⟩ else some ⟨b, off + i, none⟩) (m - i) (wcells (ws.drop i)) := by
 have hl : ws.length = m := by have := h.1; simpa [wcells] using this
 obtain ⟨b', off', e', hb, hcell⟩ := h.2 (by omega)
 cases e'
 by_cases e : c = i
 ·rw [if_pos e]
  have e2 : m = i := by omega
  rw [e2, Nat.sub_self, List.drop_eq_nil_of_le (by omega)]
  exact Rd.nil _ _ _ _
 ·rw [if_neg e]
  refine ⟨by simp [wcells, hl], fun hp => ⟨b, off + i, rfl, hb, fun j hj => ?_⟩⟩
  rw [Nat.add_assoc, hcell (i + j) (by omega)]
  simp [wcells, List.getElem?_drop]
namespace Cs
theorem sumF_few {us : List Un} {acc : Int} {ws : List Bs} (h : ws.length ≤ 1) : sumF us acc ws = some acc := by
 rcases ws with _ | ⟨a, _ | ⟨b, r⟩⟩
 ·simp [sumF]
 ·simp [sumF]
 ·simp at h
theorem sumF_no1 {us : List Un} {acc : Int} {ws : List Bs} {k : Nat} (h : 2 * k + 1 < ws.length) (h1 : numF ws[2 * k] = none) : sumF us acc (ws.drop (2 * k)) = none := by
 rw [List.drop_eq_getElem_cons (by omega), List.drop_eq_getElem_cons (by omega), sumF, h1]
theorem sumF_no2 {us : List Un} {acc : Int} {ws : List Bs} {k : Nat} {n : Int} (h : 2 * k + 1 < ws.length) (h1 : numF ws[2 * k] = some n) (h2 : sizeF us ws[2 * k + 1] = none) : sumF us acc (ws.drop (2 * k)) = none := by
 rw [List.drop_eq_getElem_cons (by omega), List.drop_eq_getElem_cons (by omega), sumF, h1, h2]
theorem sumF_yes {us : List Un} {acc : Int} {ws : List Bs} {k : Nat} {n z : Int} (h : 2 * k + 1 < ws.length) (h1 : numF ws[2 * k] = some n) (h2 : sizeF us ws[2 * k + 1] = some z) : sumF us acc (ws.drop (2 * k)) = sumF us (wr (acc + wr (n * z))) (ws.drop (2 * (k + 1))) := by
 rw [List.drop_eq_getElem_cons (by omega), List.drop_eq_getElem_cons (by omega), sumF, h1, h2]
 rfl
end Cs
set_option maxHeartbeats 8000000 in
theorem sum1_any (g : Nat) (us : List Uo) (hst : ∀ n, 1 ≤ n → ∀ Kp w, SeqStopsK Fence.wide n Tryz.prog g #[] uvals Kp (fun xs => xs = us) (fun pre => pre <+: us) us.length w)
  (eg : ∀ args w, (callFunc g args).run Tryz.prog w = .ok (.enter g args) w) (bu : Nat) (tu : TypeId) (A : Option Addr) (c : Nat) (ws : List Cs.Bs) (w : World) (hE : Env w) (hU : Bk w bu tu #[.func (.func g) #[] #[]])
  (hR : Rd w w.heap.size 1 A ws.length (wcells ws)) (hc : ws.length ≤ c) (hn : ws.length ≤ 1000) (hl : ∀ x ∈ ws, x.length ≤ 1000000) :
  Calls Tryz.prog 208 #[.slice A ws.length c, .pointer (some ⟨bu, 0, none⟩)] w fun e w' => Rdn (Cs.sumF (us.map (·.1)) 0 ws) e ∧ Below w.heap.size w w' := by
 obtain ⟨RR, hRR⟩ : ∃ r, Cs.sumF (us.map (·.1)) 0 ws = r := ⟨_, rfl⟩
 rw [hRR]
 have HRR := Lib.hid hRR
 have HE := Lib.hid hE
 have HU := Lib.hid hU
 have HR := Lib.hid hR
 have HL := Lib.hid hl
 have HSI := Lib.hid (fun wd w => size_any g us hst eg wd w)
 clear hRR hE hU hR hl hst eg
 go_enter Tryz.func208, Tryz.ntmps208
 go_wp2_with fail
 go_loopw [0, 4] (fun S N wr => ∃ (k : Nat) (acc : Int) (A' : Option Addr) (c' : Nat), 2 * k ≤ ws.length ∧ S = .slice A' (ws.length - 2 * k) c' ∧ ws.length - 2 * k ≤ c' ∧ N = .int .i64 acc ∧ -9223372036854775808 ≤ acc ∧ acc ≤ 9223372036854775807 ∧
   Cs.sumF (us.map (·.1)) acc (ws.drop (2 * k)) = RR ∧ Rd wr wr.heap.size 1 A' (ws.length - 2 * k) (wcells (ws.drop (2 * k))) ∧ Below w.heap.size w wr) (fun S _ _ => match S with | .slice _ n _ => n | _ => 0)
 case atStart => exact ⟨0, 0, A, c, by omega, rfl, hc, rfl, by omega, by omega, by rw [Nat.mul_zero, List.drop_zero]; exact HRR.out, by rw [Nat.mul_zero, List.drop_zero]; exact HR.out, Below.refl _ _⟩
 case round =>
  obtain ⟨k, acc, A', c', hk, rfl, hc', rfl, ha0, ha1, hF, hRd, hB⟩ := hrel
  by_cases hgo : 2 * k + 1 < ws.length
  ·obtain ⟨bw, ow, rfl, hbw, ca⟩ := hRd.word (k := 0) (by rw [List.length_drop]; omega)
   obtain ⟨bw2, ow2, hA2, _, cb⟩ := hRd.word (k := 1) (by rw [List.length_drop]; omega)
   cases hA2
   rw [List.getElem_drop, Nat.add_zero] at ca
   simp only [Nat.add_zero] at ca
   rw [List.getElem_drop] at cb
   obtain ⟨a, ha⟩ : ∃ x, ws[2 * k] = x := ⟨_, rfl⟩
   obtain ⟨b, hb⟩ : ∃ x, ws[2 * k + 1] = x := ⟨_, rfl⟩
   have hla : a.length ≤ 1000000 := by rw [← ha]; exact HL.out _ (List.getElem_mem _)
   rw [ha] at ca
   rw [hb] at cb
   have hm1 : 1 < ws.length - 2 * k := by omega
   have hR9 := back_words hRd hc' 2 (by omega) (by omega)
   rw [List.drop_drop] at hR9
   obtain ⟨m, hm⟩ : ∃ m, ws.length - 2 * k = m := ⟨_, rfl⟩
   have hU1 := HU.out.below hB HU.out.lt
   have cu := (hU1.cell 0).trans rfl
   have lu := hU1.lt
   have hEW := HE.out.step hB
   have HEW := Lib.hid hEW
   have hSB : ∀ W, Below wr.heap.size wr W → (W.cell? ⟨bw, ow, none⟩ = some (.string ⟨a.toArray⟩) ∧ W.cell? ⟨bw, ow + 1, none⟩ = some (.string ⟨b.toArray⟩)) ∧ W.cell? ⟨bu, 0, none⟩ = some (.func (.func g) #[] #[]) := fun W h =>
    ⟨⟨(h.cell (p := ⟨bw, ow, none⟩) hbw).trans ca, (h.cell (p := ⟨bw, ow + 1, none⟩) hbw).trans cb⟩, (h.cell (p := ⟨bu, 0, none⟩) lu).trans cu⟩
   have HSB := Lib.hid hSB
   have HB := Lib.hid hB
   have HR9 := Lib.hid hR9
   have HFF := Lib.hid hF
   have hbZ : Below wr.heap.size wr wr.drew := (Below.refl _ _).drew
   rw [hm] at hm1 hc'
   have HM := Lib.hid hm
   rw [hm]
   have hm0 : 0 < m := by omega
   rcases hna : Cs.numF a with _ | v
   ·have hfin := Cs.sumF_no1 (us := us.map (·.1)) (acc := acc) hgo (by rw [ha]; exact hna)
    rw [hF] at hfin
    have HF := Lib.hid hfin
    have hnu := fun w h => number_no a hna hla w h
    rw [sv_def] at hnu
    have HNU := Lib.hid hnu
    clear hfin hF hB hR9 hRd hEW hSB hU1 hm ha hb hnu
    go_wp2_with fail
    refine wp_region_held_drew (S := fun W => (W.cell? ⟨bw, ow, none⟩ = some (.string ⟨a.toArray⟩) ∧ W.cell? ⟨bw, ow + 1, none⟩ = some (.string ⟨b.toArray⟩)) ∧ W.cell? ⟨bu, 0, none⟩ = some (.func (.func g) #[] #[])) (by kernel_rfl) (HSB.out _ hbZ) (fun _ => ?_)
    (refine wpAnyH_take (i := 0) (v := ?_) rfl (by kernel_rfl) (by kernel_rfl) (by kernel_rfl) (fun _ _ _ h => h) (Or.inl ⟨by rfl, ?_⟩) (HSB.out _ hbZ) ?_; rotate_left 1; focus (intro w hSw; (try dsimp only at hSw); go_simp; all_goals (with_reducible rfl)); (try simp only [Act.put, List.setIfInBounds_toArray, List.set_cons_zero, List.set_cons_succ]))
    (refine wpAnyH_take (i := 1) (v := ?_) rfl (by kernel_rfl) (by kernel_rfl) (by kernel_rfl) (fun _ _ _ h => h) (Or.inl ⟨by rfl, ?_⟩) (HSB.out _ hbZ) ?_; rotate_left 1; focus (intro w hSw; (try dsimp only at hSw); go_simp; all_goals (with_reducible rfl)); (try simp only [Act.put, List.setIfInBounds_toArray, List.set_cons_zero, List.set_cons_succ]))
    (refine wpAnyH_take (i := 2) (v := ?_) rfl (by kernel_rfl) (by kernel_rfl) (by kernel_rfl) (fun _ _ _ h => h) (Or.inl ⟨by rfl, ?_⟩) (HSB.out _ hbZ) ?_; rotate_left 1; focus (intro w hSw; (try dsimp only at hSw); go_simp; all_goals (with_reducible rfl)); (try simp only [Act.put, List.setIfInBounds_toArray, List.set_cons_zero, List.set_cons_succ]))
    (refine wpAnyH_take (i := 3) (v := ?_) rfl (by kernel_rfl) (by kernel_rfl) (by kernel_rfl) (fun _ _ _ h => h) (Or.inl ⟨by rfl, ?_⟩) (HSB.out _ hbZ) ?_; rotate_left 1; focus (intro w hSw; (try dsimp only at hSw); go_simp; all_goals (with_reducible rfl)); (try simp only [Act.put, List.setIfInBounds_toArray, List.set_cons_zero, List.set_cons_succ]))
    (refine wpAnyH_take (i := 5) (v := ?_) rfl (by kernel_rfl) (by kernel_rfl) (by kernel_rfl) (fun _ _ _ h => h) (Or.inl ⟨by rfl, ?_⟩) (HSB.out _ hbZ) ?_; rotate_left 1; focus (intro w hSw; (try dsimp only at hSw); go_simp; all_goals (with_reducible rfl)); (try simp only [Act.put, List.setIfInBounds_toArray, List.set_cons_zero, List.set_cons_succ]))
    (refine wpAnyH_take (i := 6) (v := ?_) rfl (by kernel_rfl) (by kernel_rfl) (by kernel_rfl) (fun _ _ _ h => h) (Or.inl ⟨by rfl, ?_⟩) (HSB.out _ hbZ) ?_; rotate_left 1; focus (intro w hSw; (try dsimp only at hSw); go_simp; all_goals (with_reducible rfl)); (try simp only [Act.put, List.setIfInBounds_toArray, List.set_cons_zero, List.set_cons_succ]))
    (refine wpAnyH_take (i := 7) (v := ?_) rfl (by kernel_rfl) (by kernel_rfl) (by kernel_rfl) (fun _ _ _ h => h) (Or.inl ⟨by rfl, ?_⟩) (HSB.out _ hbZ) ?_; rotate_left 1; focus (intro w hSw; (try dsimp only at hSw); go_simp; all_goals (with_reducible rfl)); (try simp only [Act.put, List.setIfInBounds_toArray, List.set_cons_zero, List.set_cons_succ]))
    (refine wpAnyH_take (i := 8) (v := ?_) rfl (by kernel_rfl) (by kernel_rfl) (by kernel_rfl) (fun _ _ _ h => h) (Or.inl ⟨by rfl, ?_⟩) (HSB.out _ hbZ) ?_; rotate_left 1; focus (intro w hSw; (try dsimp only at hSw); go_simp; all_goals (with_reducible rfl)); (try simp only [Act.put, List.setIfInBounds_toArray, List.set_cons_zero, List.set_cons_succ]))
    refine wpAnyH_ready (rs := [4]) (by kernel_rfl) (by simp) ?_
    refine AllReadyH.cons rfl (fun K hK => ?_) AllReadyH.nil
    rw [if_pos (by rfl)]
    go_simp
    refine (HNU.out wr.drew (HEW.out.step hbZ)).mono ?_
    rintro e wC ⟨rfl, hbc⟩
    simp only []
    exact ⟨rfl, Rdn.none_ HF.out, HB.out.trans ((hbZ.trans (hbc.mono hbZ.size)).mono HB.out.size)⟩
   ·have hnu := fun w => number_yes a v hna hla w
    rw [sv_def] at hnu
    have HNU := Lib.hid hnu
    have hsi := fun w => HSI.out b w
    rw [sv_def] at hsi
    rcases hsb : Cs.sizeF (us.map (·.1)) b with _ | z
    ·have hfin := Cs.sumF_no2 (us := us.map (·.1)) (acc := acc) hgo (by rw [ha]; exact hna) (by rw [hb]; exact hsb)
     rw [hF] at hfin
     have HF := Lib.hid hfin
     rw [hsb] at hsi
     have HSZ := Lib.hid hsi
     clear hfin hF hB hR9 hRd hEW hSB hU1 hm ha hb hnu hsi hna hsb
     go_wp2_with fail
     refine wp_region_held_drew (S := fun W => (W.cell? ⟨bw, ow, none⟩ = some (.string ⟨a.toArray⟩) ∧ W.cell? ⟨bw, ow + 1, none⟩ = some (.string ⟨b.toArray⟩)) ∧ W.cell? ⟨bu, 0, none⟩ = some (.func (.func g) #[] #[])) (by kernel_rfl) (HSB.out _ hbZ) (fun _ => ?_)
     (refine wpAnyH_take (i := 0) (v := ?_) rfl (by kernel_rfl) (by kernel_rfl) (by kernel_rfl) (fun _ _ _ h => h) (Or.inl ⟨by rfl, ?_⟩) (HSB.out _ hbZ) ?_; rotate_left 1; focus (intro w hSw; (try dsimp only at hSw); go_simp; all_goals (with_reducible rfl)); (try simp only [Act.put, List.setIfInBounds_toArray, List.set_cons_zero, List.set_cons_succ]))
     (refine wpAnyH_take (i := 1) (v := ?_) rfl (by kernel_rfl) (by kernel_rfl) (by kernel_rfl) (fun _ _ _ h => h) (Or.inl ⟨by rfl, ?_⟩) (HSB.out _ hbZ) ?_; rotate_left 1; focus (intro w hSw; (try dsimp only at hSw); go_simp; all_goals (with_reducible rfl)); (try simp only [Act.put, List.setIfInBounds_toArray, List.set_cons_zero, List.set_cons_succ]))
     (refine wpAnyH_take (i := 2) (v := ?_) rfl (by kernel_rfl) (by kernel_rfl) (by kernel_rfl) (fun _ _ _ h => h) (Or.inl ⟨by rfl, ?_⟩) (HSB.out _ hbZ) ?_; rotate_left 1; focus (intro w hSw; (try dsimp only at hSw); go_simp; all_goals (with_reducible rfl)); (try simp only [Act.put, List.setIfInBounds_toArray, List.set_cons_zero, List.set_cons_succ]))
     (refine wpAnyH_take (i := 3) (v := ?_) rfl (by kernel_rfl) (by kernel_rfl) (by kernel_rfl) (fun _ _ _ h => h) (Or.inl ⟨by rfl, ?_⟩) (HSB.out _ hbZ) ?_; rotate_left 1; focus (intro w hSw; (try dsimp only at hSw); go_simp; all_goals (with_reducible rfl)); (try simp only [Act.put, List.setIfInBounds_toArray, List.set_cons_zero, List.set_cons_succ]))
     (refine wpAnyH_take (i := 5) (v := ?_) rfl (by kernel_rfl) (by kernel_rfl) (by kernel_rfl) (fun _ _ _ h => h) (Or.inl ⟨by rfl, ?_⟩) (HSB.out _ hbZ) ?_; rotate_left 1; focus (intro w hSw; (try dsimp only at hSw); go_simp; all_goals (with_reducible rfl)); (try simp only [Act.put, List.setIfInBounds_toArray, List.set_cons_zero, List.set_cons_succ]))
     (refine wpAnyH_take (i := 6) (v := ?_) rfl (by kernel_rfl) (by kernel_rfl) (by kernel_rfl) (fun _ _ _ h => h) (Or.inl ⟨by rfl, ?_⟩) (HSB.out _ hbZ) ?_; rotate_left 1; focus (intro w hSw; (try dsimp only at hSw); go_simp; all_goals (with_reducible rfl)); (try simp only [Act.put, List.setIfInBounds_toArray, List.set_cons_zero, List.set_cons_succ]))
     (refine wpAnyH_take (i := 7) (v := ?_) rfl (by kernel_rfl) (by kernel_rfl) (by kernel_rfl) (fun _ _ _ h => h) (Or.inl ⟨by rfl, ?_⟩) (HSB.out _ hbZ) ?_; rotate_left 1; focus (intro w hSw; (try dsimp only at hSw); go_simp; all_goals (with_reducible rfl)); (try simp only [Act.put, List.setIfInBounds_toArray, List.set_cons_zero, List.set_cons_succ]))
     (refine wpAnyH_take (i := 8) (v := ?_) rfl (by kernel_rfl) (by kernel_rfl) (by kernel_rfl) (fun _ _ _ h => h) (Or.inl ⟨by rfl, ?_⟩) (HSB.out _ hbZ) ?_; rotate_left 1; focus (intro w hSw; (try dsimp only at hSw); go_simp; all_goals (with_reducible rfl)); (try simp only [Act.put, List.setIfInBounds_toArray, List.set_cons_zero, List.set_cons_succ]))
     refine wpAnyH_ready (rs := [4]) (by kernel_rfl) (by simp) ?_
     refine AllReadyH.cons rfl (fun K hK => ?_) AllReadyH.nil
     rw [if_pos (by rfl)]
     go_simp
     refine (HNU.out wr.drew).mono ?_
     rintro e wC ⟨rfl, hbc⟩
     have hbC : Below wr.heap.size wr wC := hbZ.trans (hbc.mono hbZ.size)
     simp only []
     refine hK.out _ _ (HSB.out _ hbC) (fun _ => ?_)
     clear hK K
     (try simp only [Act.put, List.setIfInBounds_toArray, List.set_cons_zero, List.set_cons_succ])
     refine wpAnyH_ready (rs := [9]) (by kernel_rfl) (by simp) ?_
     refine AllReadyH.cons rfl (fun K hK => ?_) AllReadyH.nil
     rw [if_pos (by rfl)]
     go_simp
     refine (HSZ.out wC).mono ?_
     rintro e wD ⟨he, hbd⟩
     have he' : e = .panicked [{ v := noForm, recovered := false }] := he
     subst he'
     simp only []
     exact ⟨rfl, Rdn.none_ HF.out, HB.out.trans ((hbC.trans (hbd.mono hbC.size)).mono HB.out.size)⟩
    ·have hfin := Cs.sumF_yes (us := us.map (·.1)) (acc := acc) hgo (by rw [ha]; exact hna) (by rw [hb]; exact hsb)
     rw [hF] at hfin
     have w1 := wrap_wr (v * z)
     have w2 := wrap_wr (acc + Cs.wr (v * z))
     have hr2 := wr_range (acc + Cs.wr (v * z))
     obtain ⟨P, hP⟩ : ∃ P, Cs.wr (v * z) = P := ⟨_, rfl⟩
     rw [hP] at w1 w2 hr2 hfin
     obtain ⟨T, hT⟩ : ∃ T, Cs.wr (acc + P) = T := ⟨_, rfl⟩
     rw [hT] at w2 hr2 hfin
     have HF := Lib.hid hfin
     rw [hsb] at hsi
     have HSZ := Lib.hid hsi
     clear hfin hF hB hR9 hRd hEW hSB hU1 hm ha hb hnu hsi hna hsb hP hT
     go_wp2_with fail
     refine wp_region_held_drew (S := fun W => (W.cell? ⟨bw, ow, none⟩ = some (.string ⟨a.toArray⟩) ∧ W.cell? ⟨bw, ow + 1, none⟩ = some (.string ⟨b.toArray⟩)) ∧ W.cell? ⟨bu, 0, none⟩ = some (.func (.func g) #[] #[])) (by kernel_rfl) (HSB.out _ hbZ) (fun _ => ?_)
     (refine wpAnyH_take (i := 0) (v := ?_) rfl (by kernel_rfl) (by kernel_rfl) (by kernel_rfl) (fun _ _ _ h => h) (Or.inl ⟨by rfl, ?_⟩) (HSB.out _ hbZ) ?_; rotate_left 1; focus (intro w hSw; (try dsimp only at hSw); go_simp; all_goals (with_reducible rfl)); (try simp only [Act.put, List.setIfInBounds_toArray, List.set_cons_zero, List.set_cons_succ]))
     (refine wpAnyH_take (i := 1) (v := ?_) rfl (by kernel_rfl) (by kernel_rfl) (by kernel_rfl) (fun _ _ _ h => h) (Or.inl ⟨by rfl, ?_⟩) (HSB.out _ hbZ) ?_; rotate_left 1; focus (intro w hSw; (try dsimp only at hSw); go_simp; all_goals (with_reducible rfl)); (try simp only [Act.put, List.setIfInBounds_toArray, List.set_cons_zero, List.set_cons_succ]))
     (refine wpAnyH_take (i := 2) (v := ?_) rfl (by kernel_rfl) (by kernel_rfl) (by kernel_rfl) (fun _ _ _ h => h) (Or.inl ⟨by rfl, ?_⟩) (HSB.out _ hbZ) ?_; rotate_left 1; focus (intro w hSw; (try dsimp only at hSw); go_simp; all_goals (with_reducible rfl)); (try simp only [Act.put, List.setIfInBounds_toArray, List.set_cons_zero, List.set_cons_succ]))
     (refine wpAnyH_take (i := 3) (v := ?_) rfl (by kernel_rfl) (by kernel_rfl) (by kernel_rfl) (fun _ _ _ h => h) (Or.inl ⟨by rfl, ?_⟩) (HSB.out _ hbZ) ?_; rotate_left 1; focus (intro w hSw; (try dsimp only at hSw); go_simp; all_goals (with_reducible rfl)); (try simp only [Act.put, List.setIfInBounds_toArray, List.set_cons_zero, List.set_cons_succ]))
     (refine wpAnyH_take (i := 5) (v := ?_) rfl (by kernel_rfl) (by kernel_rfl) (by kernel_rfl) (fun _ _ _ h => h) (Or.inl ⟨by rfl, ?_⟩) (HSB.out _ hbZ) ?_; rotate_left 1; focus (intro w hSw; (try dsimp only at hSw); go_simp; all_goals (with_reducible rfl)); (try simp only [Act.put, List.setIfInBounds_toArray, List.set_cons_zero, List.set_cons_succ]))
     (refine wpAnyH_take (i := 6) (v := ?_) rfl (by kernel_rfl) (by kernel_rfl) (by kernel_rfl) (fun _ _ _ h => h) (Or.inl ⟨by rfl, ?_⟩) (HSB.out _ hbZ) ?_; rotate_left 1; focus (intro w hSw; (try dsimp only at hSw); go_simp; all_goals (with_reducible rfl)); (try simp only [Act.put, List.setIfInBounds_toArray, List.set_cons_zero, List.set_cons_succ]))
     (refine wpAnyH_take (i := 7) (v := ?_) rfl (by kernel_rfl) (by kernel_rfl) (by kernel_rfl) (fun _ _ _ h => h) (Or.inl ⟨by rfl, ?_⟩) (HSB.out _ hbZ) ?_; rotate_left 1; focus (intro w hSw; (try dsimp only at hSw); go_simp; all_goals (with_reducible rfl)); (try simp only [Act.put, List.setIfInBounds_toArray, List.set_cons_zero, List.set_cons_succ]))
     (refine wpAnyH_take (i := 8) (v := ?_) rfl (by kernel_rfl) (by kernel_rfl) (by kernel_rfl) (fun _ _ _ h => h) (Or.inl ⟨by rfl, ?_⟩) (HSB.out _ hbZ) ?_; rotate_left 1; focus (intro w hSw; (try dsimp only at hSw); go_simp; all_goals (with_reducible rfl)); (try simp only [Act.put, List.setIfInBounds_toArray, List.set_cons_zero, List.set_cons_succ]))
     refine wpAnyH_ready (rs := [4]) (by kernel_rfl) (by simp) ?_
     refine AllReadyH.cons rfl (fun K hK => ?_) AllReadyH.nil
     rw [if_pos (by rfl)]
     go_simp
     refine (HNU.out wr.drew).mono ?_
     rintro e wC ⟨rfl, hbc⟩
     have hbC : Below wr.heap.size wr wC := hbZ.trans (hbc.mono hbZ.size)
     simp only []
     refine hK.out _ _ (HSB.out _ hbC) (fun _ => ?_)
     clear hK K
     (try simp only [Act.put, List.setIfInBounds_toArray, List.set_cons_zero, List.set_cons_succ])
     refine wpAnyH_ready (rs := [9]) (by kernel_rfl) (by simp) ?_
     refine AllReadyH.cons rfl (fun K hK => ?_) AllReadyH.nil
     rw [if_pos (by rfl)]
     go_simp
     refine (HSZ.out wC).mono ?_
     rintro e wD ⟨he, hbd⟩
     have he' : e = .returned (.int .i64 z) := he
     subst he'
     have hbD : Below wr.heap.size wr wD := hbC.trans (hbd.mono hbC.size)
     simp only []
     refine hK.out _ _ (HSB.out _ hbD) (fun _ => ?_)
     clear hK K
     (try simp only [Act.put, List.setIfInBounds_toArray, List.set_cons_zero, List.set_cons_succ])
     (refine wpAnyH_take (i := 10) (v := ?_) rfl (by kernel_rfl) (by kernel_rfl) (by kernel_rfl) (fun _ _ _ h => h) (Or.inl ⟨by rfl, ?_⟩) (HSB.out _ hbD) ?_; rotate_left 1; focus (intro w hSw; (try dsimp only at hSw); go_simp; all_goals (with_reducible rfl)); (try simp only [Act.put, List.setIfInBounds_toArray, List.set_cons_zero, List.set_cons_succ]))
     (refine wpAnyH_take (i := 11) (v := ?_) rfl (by kernel_rfl) (by kernel_rfl) (by kernel_rfl) (fun _ _ _ h => h) (Or.inl ⟨by rfl, ?_⟩) (HSB.out _ hbD) ?_; rotate_left 1; focus (intro w hSw; (try dsimp only at hSw); go_simp; all_goals (with_reducible rfl)); (try simp only [Act.put, List.setIfInBounds_toArray, List.set_cons_zero, List.set_cons_succ]))
     (refine wpAnyH_take (i := 12) (v := ?_) rfl (by kernel_rfl) (by kernel_rfl) (by kernel_rfl) (fun _ _ _ h => h) (Or.inl ⟨by rfl, ?_⟩) (HSB.out _ hbD) ?_; rotate_left 1; focus (intro w hSw; (try dsimp only at hSw); go_simp; all_goals (with_reducible rfl)); (try simp only [Act.put, List.setIfInBounds_toArray, List.set_cons_zero, List.set_cons_succ]))
     refine wpAnyH_done (by kernel_rfl) ?_ _
     go_wp2_with fail
     go_roundw
     case rel =>
      have e9 : m - 2 = ws.length - 2 * (k + 1) := by have := HM.out; omega
      refine ⟨k + 1, T, _, c' - 2, by omega, by rw [← e9], by omega, rfl, hr2.1, hr2.2, HF.out.symm, ?_, HB.out.trans (hbD.mono HB.out.size)⟩
      have h9 := (HR9.out.below hbD (Nat.le_refl _)).more hbD.size
      rw [show ws.length - 2 * (k + 1) = ws.length - 2 * k - 2 by omega, show 2 * (k + 1) = 2 * k + 2 by omega]
      exact h9
     case measure => simp; omega
  ·have hfin := Cs.sumF_few (us := us.map (·.1)) (acc := acc) (ws := ws.drop (2 * k)) (by rw [List.length_drop]; omega)
   rw [hF] at hfin
   have HF := Lib.hid hfin
   have HB := Lib.hid hB
   have hno : ¬ 1 < ws.length - 2 * k := by omega
   obtain ⟨m, hm⟩ : ∃ m, ws.length - 2 * k = m := ⟨_, rfl⟩
   rw [hm] at hc' hno
   rw [hm]
   clear hF hfin hRd hB hm hgo
   go_wp2_with fail
   go_ret
   exact ⟨Rdn.some_ HF.out, HB.out⟩
end Go.Proofs.YtcbeefbefapicaaGreatDoor
