/-
  What the claim needs: contracts.
-/
import Derived.Test.YtccikcpcfdjobaaGreatDoorBs07
set_option linter.unusedVariables false
set_option linter.unusedSimpArgs false
set_option maxHeartbeats 8000000
set_option maxRecDepth 100000
namespace Go.Proofs.YtccikcpcfdjobaaGreatDoor
section
open Go.RowKit Go.Shelf
theorem y3f (x : Int) : IntKind.i64.wrap x = Cs.wr x := by
 rw [IntKind.wrap_i64];unfold Cs.wr;split <;> omega
theorem yBn (x : Int) : -9223372036854775808 <= Cs.wr x /\ Cs.wr x <= 9223372036854775807 := by
 unfold Cs.wr;split <;> omega
theorem Rd.word {w : World} {B n : Nat} {A : Option Addr} {ws : List Cs.Bs} (h : Rd w B 1 A n (wcells ws)) {k : Nat} (hk : k < ws.length) :
  ∃ b off, A = some ⟨b, off, none⟩ /\ b < B /\ w.cell? ⟨b, off + k, none⟩ = some (.string ⟨ws[k].toArray⟩) := by
 have hl : ws.length = n := by have := h.1; simpa [wcells] using this
 obtain ⟨b, off, e, hb, hc⟩ := h.2 (by omega);refine ⟨b, off, e, hb, ?_⟩;rw [hc k (by omega)];simp [wcells, hk, sv]
theorem y8D {B m c b off : Nat} {ws : List Cs.Bs} {w0 : World} (h : Rd w0 B 1 (some ⟨b, off, none⟩) m (wcells ws)) (hc : m <= c) (i : Nat) (hi0 : 0 < i) (hi : i <= m) :
  Rd w0 B 1 (if c = i then some ⟨b, off, none⟩ else some ⟨b, off + i, none⟩) (m - i) (wcells (ws.drop i)) := by
 have hl : ws.length = m := by have := h.1; simpa [wcells] using this
 obtain ⟨b', off', e', hb, hcell⟩ := h.2 (by omega);cases e';by_cases e : c = i
 ·rw [if_pos e];have e2 : m = i := by omega
  rw [e2, Nat.sub_self, List.drop_eq_nil_of_le (by omega)];exact Rd.nil _ _ _ _
 rw [if_neg e];refine ⟨by simp [wcells, hl], fun hp => ⟨b, off + i, rfl, hb, fun j hj => ?_⟩⟩;rw [Nat.add_assoc, hcell (i + j) (by omega)];simp [wcells, List.getElem?_drop]
namespace Cs
theorem yBd {us : List Un} {acc : Int} {ws : List Bs} (h : ws.length <= 1) : sumF us acc ws = some acc := by
 rcases ws with _ | ⟨a, _ | ⟨b, r⟩⟩
 ·simp [sumF]
 ·simp [sumF]
 simp at h
theorem yBe {us : List Un} {acc : Int} {ws : List Bs} {k : Nat} (h : 2 * k + 1 < ws.length) (h1 : numF ws[2 * k] = none) : sumF us acc (ws.drop (2 * k)) = none := by
 rw [List.drop_eq_getElem_cons (by omega), List.drop_eq_getElem_cons (by omega), sumF, h1]
theorem yBf {us : List Un} {acc : Int} {ws : List Bs} {k : Nat} {n : Int} (h : 2 * k + 1 < ws.length) (h1 : numF ws[2 * k] = some n) (h2 : sizeF us ws[2 * k + 1] = none) : sumF us acc (ws.drop (2 * k)) = none := by
 rw [List.drop_eq_getElem_cons (by omega), List.drop_eq_getElem_cons (by omega), sumF, h1, h2]
theorem yBg {us : List Un} {acc : Int} {ws : List Bs} {k : Nat} {n z : Int} (h : 2 * k + 1 < ws.length) (h1 : numF ws[2 * k] = some n) (h2 : sizeF us ws[2 * k + 1] = some z) : sumF us acc (ws.drop (2 * k)) = sumF us (wr (acc + wr (n * z))) (ws.drop (2 * (k + 1))) := by
 rw [List.drop_eq_getElem_cons (by omega), List.drop_eq_getElem_cons (by omega), sumF, h1, h2];rfl
end Cs
theorem yBc (g : Nat) (us : List Uo) (hst : ∀ n, 1 <= n -> ∀ Kp w, SeqStopsK Fence.wide n Tryz.prog g #[] uvals Kp (fun xs => xs = us) (fun pre => pre <+: us) us.length w)
  (eg : ∀ args w, (callFunc g args).run Tryz.prog w = .ok (.enter g args) w) (bu : Nat) (tu : TypeId) (A : Option Addr) (c : Nat) (ws : List Cs.Bs) (w : World) (hE : Env w) (hU : Bk w bu tu #[.func (.func g) #[] #[]])
  (hR : Rd w w.heap.size 1 A ws.length (wcells ws)) (hc : ws.length <= c) (hn : ws.length <= 1000) (hl : ∀ x ∈ ws, x.length <= 1000000) :
  Calls Tryz.prog 301 #[.slice A ws.length c, .pointer (some ⟨bu, 0, none⟩)] w fun e w' => Rdn (Cs.sumF (us.map (·.1)) 0 ws) e /\ Below w.heap.size w w' := by
 obtain ⟨RR, hRR⟩ := zE (Cs.sumF (us.map (·.1)) 0 ws);rw [hRR];have HRR := jQ hRR;have HE := jQ hE;have HU := jQ hU;have HR := jQ hR;have HL := jQ hl;have HSI := jQ (fun wd w => yBX g us hst eg wd w);clear hRR hE hU hR hl hst eg;go_enter Tryz.func301, Tryz.ntmps301;go_wp2_with fail;go_loopw [0, 4] (fun S N wr => ∃ (k : Nat) (acc : Int) (A' : Option Addr) (c' : Nat), 2 * k <= ws.length /\ S = .slice A' (ws.length - 2 * k) c' /\ ws.length - 2 * k <= c' /\ N = .int .i64 acc /\ -9223372036854775808 <= acc /\ acc <= 9223372036854775807 /\
   Cs.sumF (us.map (·.1)) acc (ws.drop (2 * k)) = RR /\ Rd wr wr.heap.size 1 A' (ws.length - 2 * k) (wcells (ws.drop (2 * k))) /\ Below w.heap.size w wr) (fun S _ _ => match S with | .slice _ n _ => n | _ => 0)
 case atStart => exact ⟨0, 0, A, c, by omega, rfl, hc, rfl, by omega, by omega, by rw [Nat.mul_zero, List.drop_zero]; exact HRR.o, by rw [Nat.mul_zero, List.drop_zero]; exact HR.o, Below.refl _ _⟩
 obtain ⟨k, acc, A', c', hk, rfl, hc', rfl, ha0, ha1, hF, hRd, hB⟩ := hrel;by_cases hgo : 2 * k + 1 < ws.length
 ·obtain ⟨bw, ow, rfl, hbw, ca⟩ := hRd.word (k := 0) (by rw [List.length_drop]; omega);obtain ⟨bw2, ow2, hA2, _, cb⟩ := hRd.word (k := 1) (by rw [List.length_drop]; omega);cases hA2;rw [List.getElem_drop, Nat.add_zero] at ca;simp only [Nat.add_zero] at ca;rw [List.getElem_drop] at cb;obtain ⟨a, ha⟩ := zE (ws[2 * k]);obtain ⟨b, hb⟩ := zE (ws[2 * k + 1]);have hla : a.length <= 1000000 := by rw [<- ha]; exact HL.o _ (List.getElem_mem _)
  rw [ha] at ca;rw [hb] at cb;have hm1 : 1 < ws.length - 2 * k := by omega
  have hR9 := y8D hRd hc' 2 (by omega) (by omega);rw [List.drop_drop] at hR9;obtain ⟨m, hm⟩ := zE (ws.length - 2 * k);have hU1 := HU.o.below hB HU.o.lt;have cu := (hU1.cell 0).trans rfl;have lu := hU1.lt;have hEW := HE.o.step hB;have HEW := jQ hEW;have hSB : ∀ W, Below wr.heap.size wr W -> (W.cell? ⟨bw, ow, none⟩ = some (.string ⟨a.toArray⟩) /\ W.cell? ⟨bw, ow + 1, none⟩ = some (.string ⟨b.toArray⟩)) /\ W.cell? ⟨bu, 0, none⟩ = some (.func (.func g) #[] #[]) := fun W h =>
   ⟨⟨(h.cell (p := ⟨bw, ow, none⟩) hbw).trans ca, (h.cell (p := ⟨bw, ow + 1, none⟩) hbw).trans cb⟩, (h.cell (p := ⟨bu, 0, none⟩) lu).trans cu⟩
  have HSB := jQ hSB;have HB := jQ hB;have HR9 := jQ hR9;have HFF := jQ hF;have hbZ : Below wr.heap.size wr wr.drew := (Below.refl _ _).drew;rw [hm] at hm1 hc';have HM := jQ hm;rw [hm];have hm0 : 0 < m := by omega
  rcases hna : Cs.numF a with _ | v
  ·have hfin := Cs.yBe (us := us.map (·.1)) (acc := acc) hgo (by rw [ha]; exact hna);rw [hF] at hfin;have HF := jQ hfin;have hnu := fun w h => y62 a hna hla w h;rw [y06] at hnu;have HNU := jQ hnu;clear hfin hF hB hR9 hRd hEW hSB hU1 hm ha hb hnu;go_wp2_with fail;refine wp_region_held_drew (S := fun W => (W.cell? ⟨bw, ow, none⟩ = some (.string ⟨a.toArray⟩) /\ W.cell? ⟨bw, ow + 1, none⟩ = some (.string ⟨b.toArray⟩)) /\ W.cell? ⟨bu, 0, none⟩ = some (.func (.func g) #[] #[])) (by kernel_rfl) (HSB.o _ hbZ) (fun _ => ?_)
   (refine wpAnyH_take (i := 0) (v := ?_) rfl (by kernel_rfl) (by kernel_rfl) (by kernel_rfl) (fun _ _ _ h => h) (Or.inl ⟨by rfl, ?_⟩) (HSB.o _ hbZ) ?_; rotate_left 1; focus (intro w hSw; (try dsimp only at hSw); go_simp; all_goals (with_reducible rfl)); (try simp only [Act.put, zB]))
   (refine wpAnyH_take (i := 1) (v := ?_) rfl (by kernel_rfl) (by kernel_rfl) (by kernel_rfl) (fun _ _ _ h => h) (Or.inl ⟨by rfl, ?_⟩) (HSB.o _ hbZ) ?_; rotate_left 1; focus (intro w hSw; (try dsimp only at hSw); go_simp; all_goals (with_reducible rfl)); (try simp only [Act.put, zB]))
   (refine wpAnyH_take (i := 2) (v := ?_) rfl (by kernel_rfl) (by kernel_rfl) (by kernel_rfl) (fun _ _ _ h => h) (Or.inl ⟨by rfl, ?_⟩) (HSB.o _ hbZ) ?_; rotate_left 1; focus (intro w hSw; (try dsimp only at hSw); go_simp; all_goals (with_reducible rfl)); (try simp only [Act.put, zB]))
   (refine wpAnyH_take (i := 3) (v := ?_) rfl (by kernel_rfl) (by kernel_rfl) (by kernel_rfl) (fun _ _ _ h => h) (Or.inl ⟨by rfl, ?_⟩) (HSB.o _ hbZ) ?_; rotate_left 1; focus (intro w hSw; (try dsimp only at hSw); go_simp; all_goals (with_reducible rfl)); (try simp only [Act.put, zB]))
   (refine wpAnyH_take (i := 5) (v := ?_) rfl (by kernel_rfl) (by kernel_rfl) (by kernel_rfl) (fun _ _ _ h => h) (Or.inl ⟨by rfl, ?_⟩) (HSB.o _ hbZ) ?_; rotate_left 1; focus (intro w hSw; (try dsimp only at hSw); go_simp; all_goals (with_reducible rfl)); (try simp only [Act.put, zB]))
   (refine wpAnyH_take (i := 6) (v := ?_) rfl (by kernel_rfl) (by kernel_rfl) (by kernel_rfl) (fun _ _ _ h => h) (Or.inl ⟨by rfl, ?_⟩) (HSB.o _ hbZ) ?_; rotate_left 1; focus (intro w hSw; (try dsimp only at hSw); go_simp; all_goals (with_reducible rfl)); (try simp only [Act.put, zB]))
   (refine wpAnyH_take (i := 7) (v := ?_) rfl (by kernel_rfl) (by kernel_rfl) (by kernel_rfl) (fun _ _ _ h => h) (Or.inl ⟨by rfl, ?_⟩) (HSB.o _ hbZ) ?_; rotate_left 1; focus (intro w hSw; (try dsimp only at hSw); go_simp; all_goals (with_reducible rfl)); (try simp only [Act.put, zB]))
   (refine wpAnyH_take (i := 8) (v := ?_) rfl (by kernel_rfl) (by kernel_rfl) (by kernel_rfl) (fun _ _ _ h => h) (Or.inl ⟨by rfl, ?_⟩) (HSB.o _ hbZ) ?_; rotate_left 1; focus (intro w hSw; (try dsimp only at hSw); go_simp; all_goals (with_reducible rfl)); (try simp only [Act.put, zB]))
   refine wpAnyH_ready (rs := [4]) (by kernel_rfl) (by simp) ?_;refine zA rfl fun K hK => ?_;rw [if_pos (by rfl)];go_simp;refine (HNU.o wr.drew (HEW.o.step hbZ)).mono ?_;rintro e wC ⟨rfl, hbc⟩;simp only [];exact ⟨rfl, Rdn.none_ HF.o, HB.o.trans ((hbZ.trans (hbc.mono hbZ.size)).mono HB.o.size)⟩
  have hnu := fun w => y4X a v hna hla w;rw [y06] at hnu;have HNU := jQ hnu;have hsi := fun w => HSI.o b w;rw [y06] at hsi;rcases hsb : Cs.sizeF (us.map (·.1)) b with _ | z
  ·have hfin := Cs.yBf (us := us.map (·.1)) (acc := acc) hgo (by rw [ha]; exact hna) (by rw [hb]; exact hsb);rw [hF] at hfin;have HF := jQ hfin;rw [hsb] at hsi;have HSZ := jQ hsi;clear hfin hF hB hR9 hRd hEW hSB hU1 hm ha hb hnu hsi hna hsb;go_wp2_with fail;refine wp_region_held_drew (S := fun W => (W.cell? ⟨bw, ow, none⟩ = some (.string ⟨a.toArray⟩) /\ W.cell? ⟨bw, ow + 1, none⟩ = some (.string ⟨b.toArray⟩)) /\ W.cell? ⟨bu, 0, none⟩ = some (.func (.func g) #[] #[])) (by kernel_rfl) (HSB.o _ hbZ) (fun _ => ?_)
   (refine wpAnyH_take (i := 0) (v := ?_) rfl (by kernel_rfl) (by kernel_rfl) (by kernel_rfl) (fun _ _ _ h => h) (Or.inl ⟨by rfl, ?_⟩) (HSB.o _ hbZ) ?_; rotate_left 1; focus (intro w hSw; (try dsimp only at hSw); go_simp; all_goals (with_reducible rfl)); (try simp only [Act.put, zB]))
   (refine wpAnyH_take (i := 1) (v := ?_) rfl (by kernel_rfl) (by kernel_rfl) (by kernel_rfl) (fun _ _ _ h => h) (Or.inl ⟨by rfl, ?_⟩) (HSB.o _ hbZ) ?_; rotate_left 1; focus (intro w hSw; (try dsimp only at hSw); go_simp; all_goals (with_reducible rfl)); (try simp only [Act.put, zB]))
   (refine wpAnyH_take (i := 2) (v := ?_) rfl (by kernel_rfl) (by kernel_rfl) (by kernel_rfl) (fun _ _ _ h => h) (Or.inl ⟨by rfl, ?_⟩) (HSB.o _ hbZ) ?_; rotate_left 1; focus (intro w hSw; (try dsimp only at hSw); go_simp; all_goals (with_reducible rfl)); (try simp only [Act.put, zB]))
   (refine wpAnyH_take (i := 3) (v := ?_) rfl (by kernel_rfl) (by kernel_rfl) (by kernel_rfl) (fun _ _ _ h => h) (Or.inl ⟨by rfl, ?_⟩) (HSB.o _ hbZ) ?_; rotate_left 1; focus (intro w hSw; (try dsimp only at hSw); go_simp; all_goals (with_reducible rfl)); (try simp only [Act.put, zB]))
   (refine wpAnyH_take (i := 5) (v := ?_) rfl (by kernel_rfl) (by kernel_rfl) (by kernel_rfl) (fun _ _ _ h => h) (Or.inl ⟨by rfl, ?_⟩) (HSB.o _ hbZ) ?_; rotate_left 1; focus (intro w hSw; (try dsimp only at hSw); go_simp; all_goals (with_reducible rfl)); (try simp only [Act.put, zB]))
   (refine wpAnyH_take (i := 6) (v := ?_) rfl (by kernel_rfl) (by kernel_rfl) (by kernel_rfl) (fun _ _ _ h => h) (Or.inl ⟨by rfl, ?_⟩) (HSB.o _ hbZ) ?_; rotate_left 1; focus (intro w hSw; (try dsimp only at hSw); go_simp; all_goals (with_reducible rfl)); (try simp only [Act.put, zB]))
   (refine wpAnyH_take (i := 7) (v := ?_) rfl (by kernel_rfl) (by kernel_rfl) (by kernel_rfl) (fun _ _ _ h => h) (Or.inl ⟨by rfl, ?_⟩) (HSB.o _ hbZ) ?_; rotate_left 1; focus (intro w hSw; (try dsimp only at hSw); go_simp; all_goals (with_reducible rfl)); (try simp only [Act.put, zB]))
   (refine wpAnyH_take (i := 8) (v := ?_) rfl (by kernel_rfl) (by kernel_rfl) (by kernel_rfl) (fun _ _ _ h => h) (Or.inl ⟨by rfl, ?_⟩) (HSB.o _ hbZ) ?_; rotate_left 1; focus (intro w hSw; (try dsimp only at hSw); go_simp; all_goals (with_reducible rfl)); (try simp only [Act.put, zB]))
   refine wpAnyH_ready (rs := [4]) (by kernel_rfl) (by simp) ?_;refine zA rfl fun K hK => ?_;rw [if_pos (by rfl)];go_simp;refine (HNU.o wr.drew).mono ?_;rintro e wC ⟨rfl, hbc⟩;have hbC : Below wr.heap.size wr wC := hbZ.trans (hbc.mono hbZ.size);simp only [];refine hK.out _ _ (HSB.o _ hbC) (fun _ => ?_);clear hK K
   (try simp only [Act.put, zB])
   refine wpAnyH_ready (rs := [9]) (by kernel_rfl) (by simp) ?_;refine zA rfl fun K hK => ?_;rw [if_pos (by rfl)];go_simp;refine (HSZ.o wC).mono ?_;rintro e wD ⟨he, hbd⟩;have he' : e = .panicked [{ v := noForm, recovered := false }] := he;subst he';simp only [];exact ⟨rfl, Rdn.none_ HF.o, HB.o.trans ((hbC.trans (hbd.mono hbC.size)).mono HB.o.size)⟩
  have hfin := Cs.yBg (us := us.map (·.1)) (acc := acc) hgo (by rw [ha]; exact hna) (by rw [hb]; exact hsb);rw [hF] at hfin;have w1 := y3f (v * z);have w2 := y3f (acc + Cs.wr (v * z));have hr2 := yBn (acc + Cs.wr (v * z));obtain ⟨P, hP⟩ := zE (Cs.wr (v * z));rw [hP] at w1 w2 hr2 hfin;obtain ⟨T, hT⟩ := zE (Cs.wr (acc + P));rw [hT] at w2 hr2 hfin;have HF := jQ hfin;rw [hsb] at hsi;have HSZ := jQ hsi;clear hfin hF hB hR9 hRd hEW hSB hU1 hm ha hb hnu hsi hna hsb hP hT;go_wp2_with fail;refine wp_region_held_drew (S := fun W => (W.cell? ⟨bw, ow, none⟩ = some (.string ⟨a.toArray⟩) /\ W.cell? ⟨bw, ow + 1, none⟩ = some (.string ⟨b.toArray⟩)) /\ W.cell? ⟨bu, 0, none⟩ = some (.func (.func g) #[] #[])) (by kernel_rfl) (HSB.o _ hbZ) (fun _ => ?_)
  (refine wpAnyH_take (i := 0) (v := ?_) rfl (by kernel_rfl) (by kernel_rfl) (by kernel_rfl) (fun _ _ _ h => h) (Or.inl ⟨by rfl, ?_⟩) (HSB.o _ hbZ) ?_; rotate_left 1; focus (intro w hSw; (try dsimp only at hSw); go_simp; all_goals (with_reducible rfl)); (try simp only [Act.put, zB]))
  (refine wpAnyH_take (i := 1) (v := ?_) rfl (by kernel_rfl) (by kernel_rfl) (by kernel_rfl) (fun _ _ _ h => h) (Or.inl ⟨by rfl, ?_⟩) (HSB.o _ hbZ) ?_; rotate_left 1; focus (intro w hSw; (try dsimp only at hSw); go_simp; all_goals (with_reducible rfl)); (try simp only [Act.put, zB]))
  (refine wpAnyH_take (i := 2) (v := ?_) rfl (by kernel_rfl) (by kernel_rfl) (by kernel_rfl) (fun _ _ _ h => h) (Or.inl ⟨by rfl, ?_⟩) (HSB.o _ hbZ) ?_; rotate_left 1; focus (intro w hSw; (try dsimp only at hSw); go_simp; all_goals (with_reducible rfl)); (try simp only [Act.put, zB]))
  (refine wpAnyH_take (i := 3) (v := ?_) rfl (by kernel_rfl) (by kernel_rfl) (by kernel_rfl) (fun _ _ _ h => h) (Or.inl ⟨by rfl, ?_⟩) (HSB.o _ hbZ) ?_; rotate_left 1; focus (intro w hSw; (try dsimp only at hSw); go_simp; all_goals (with_reducible rfl)); (try simp only [Act.put, zB]))
  (refine wpAnyH_take (i := 5) (v := ?_) rfl (by kernel_rfl) (by kernel_rfl) (by kernel_rfl) (fun _ _ _ h => h) (Or.inl ⟨by rfl, ?_⟩) (HSB.o _ hbZ) ?_; rotate_left 1; focus (intro w hSw; (try dsimp only at hSw); go_simp; all_goals (with_reducible rfl)); (try simp only [Act.put, zB]))
  (refine wpAnyH_take (i := 6) (v := ?_) rfl (by kernel_rfl) (by kernel_rfl) (by kernel_rfl) (fun _ _ _ h => h) (Or.inl ⟨by rfl, ?_⟩) (HSB.o _ hbZ) ?_; rotate_left 1; focus (intro w hSw; (try dsimp only at hSw); go_simp; all_goals (with_reducible rfl)); (try simp only [Act.put, zB]))
  (refine wpAnyH_take (i := 7) (v := ?_) rfl (by kernel_rfl) (by kernel_rfl) (by kernel_rfl) (fun _ _ _ h => h) (Or.inl ⟨by rfl, ?_⟩) (HSB.o _ hbZ) ?_; rotate_left 1; focus (intro w hSw; (try dsimp only at hSw); go_simp; all_goals (with_reducible rfl)); (try simp only [Act.put, zB]))
  (refine wpAnyH_take (i := 8) (v := ?_) rfl (by kernel_rfl) (by kernel_rfl) (by kernel_rfl) (fun _ _ _ h => h) (Or.inl ⟨by rfl, ?_⟩) (HSB.o _ hbZ) ?_; rotate_left 1; focus (intro w hSw; (try dsimp only at hSw); go_simp; all_goals (with_reducible rfl)); (try simp only [Act.put, zB]))
  refine wpAnyH_ready (rs := [4]) (by kernel_rfl) (by simp) ?_;refine zA rfl fun K hK => ?_;rw [if_pos (by rfl)];go_simp;refine (HNU.o wr.drew).mono ?_;rintro e wC ⟨rfl, hbc⟩;have hbC : Below wr.heap.size wr wC := hbZ.trans (hbc.mono hbZ.size);simp only [];refine hK.out _ _ (HSB.o _ hbC) (fun _ => ?_);clear hK K
  (try simp only [Act.put, zB])
  refine wpAnyH_ready (rs := [9]) (by kernel_rfl) (by simp) ?_;refine zA rfl fun K hK => ?_;rw [if_pos (by rfl)];go_simp;refine (HSZ.o wC).mono ?_;rintro e wD ⟨he, hbd⟩;have he' : e = .returned (.int .i64 z) := he;subst he';have hbD : Below wr.heap.size wr wD := hbC.trans (hbd.mono hbC.size);simp only [];refine hK.out _ _ (HSB.o _ hbD) (fun _ => ?_);clear hK K
  (try simp only [Act.put, zB])
  (refine wpAnyH_take (i := 10) (v := ?_) rfl (by kernel_rfl) (by kernel_rfl) (by kernel_rfl) (fun _ _ _ h => h) (Or.inl ⟨by rfl, ?_⟩) (HSB.o _ hbD) ?_; rotate_left 1; focus (intro w hSw; (try dsimp only at hSw); go_simp; all_goals (with_reducible rfl)); (try simp only [Act.put, zB]))
  (refine wpAnyH_take (i := 11) (v := ?_) rfl (by kernel_rfl) (by kernel_rfl) (by kernel_rfl) (fun _ _ _ h => h) (Or.inl ⟨by rfl, ?_⟩) (HSB.o _ hbD) ?_; rotate_left 1; focus (intro w hSw; (try dsimp only at hSw); go_simp; all_goals (with_reducible rfl)); (try simp only [Act.put, zB]))
  (refine wpAnyH_take (i := 12) (v := ?_) rfl (by kernel_rfl) (by kernel_rfl) (by kernel_rfl) (fun _ _ _ h => h) (Or.inl ⟨by rfl, ?_⟩) (HSB.o _ hbD) ?_; rotate_left 1; focus (intro w hSw; (try dsimp only at hSw); go_simp; all_goals (with_reducible rfl)); (try simp only [Act.put, zB]))
  refine wpAnyH_done (by kernel_rfl) ?_ _;go_wp2_with fail;go_roundw
  case rel =>
   have e9 : m - 2 = ws.length - 2 * (k + 1) := by have := HM.o; omega
   refine ⟨k + 1, T, _, c' - 2, by omega, by rw [<- e9], by omega, rfl, hr2.1, hr2.2, HF.o.symm, ?_, HB.o.trans (hbD.mono HB.o.size)⟩;have h9 := (HR9.o.below hbD (Nat.le_refl _)).more hbD.size;rw [show ws.length - 2 * (k + 1) = ws.length - 2 * k - 2 by omega, show 2 * (k + 1) = 2 * k + 2 by omega];exact h9
  case measure => simp; omega
 have hfin := Cs.yBd (us := us.map (·.1)) (acc := acc) (ws := ws.drop (2 * k)) (by rw [List.length_drop]; omega);rw [hF] at hfin;have HF := jQ hfin;have HB := jQ hB;have hno : ¬ 1 < ws.length - 2 * k := by omega
 obtain ⟨m, hm⟩ := zE (ws.length - 2 * k);rw [hm] at hc' hno;rw [hm];clear hF hfin hRd hB hm hgo;go_wp2_with fail;go_ret;exact ⟨Rdn.some_ HF.o, HB.o⟩
end

section
open Go.RowKit Go.Shelf
theorem yAf (s : Cs.Bs) (hs : s.length <= 1000000) (w : World) (hE : Env w) :
  Calls Tryz.prog 300 #[.string ⟨s.toArray⟩, .string ⟨#[32]⟩, .int .i64 8] w fun e w' => ∃ A c, e = .returned (.slice A (Lib.splitN s [32] 8).length c) /\ (Lib.splitN s [32] 8).length <= c /\ Rd w' w'.heap.size 1 A (Lib.splitN s [32] 8).length (wcells (Lib.splitN s [32] 8)) /\ Below w.heap.size w w' := by
 obtain ⟨m, hm⟩ := hE.mx;have h := Tryz.strings_SplitN ⟨s.toArray⟩ ⟨#[32]⟩ 8 m w (by simp [ByteArray.size]; omega) hm (by decide) (by decide) (by decide);have hd := Lib.splitB_data ⟨#[32]⟩ 0 (min 8 ((⟨s.toArray⟩ : ByteArray).size + 1) - 1) ⟨s.toArray⟩;have e1 : Lib.splitN s [32] 8 = (Lib.splitB ⟨#[32]⟩ 0 (min 8 ((⟨s.toArray⟩ : ByteArray).size + 1) - 1) ⟨s.toArray⟩).map (·.data.toList) := by
  rw [hd];simp [Lib.splitN, ByteArray.size]
 obtain ⟨L, hL⟩ := zE (Lib.splitB ⟨#[32]⟩ 0 (min 8 ((⟨s.toArray⟩ : ByteArray).size + 1) - 1) ⟨s.toArray⟩);have hle := Lib.splitB_length_le ⟨#[32]⟩ 0 (min 8 ((⟨s.toArray⟩ : ByteArray).size + 1) - 1) ⟨s.toArray⟩;rw [hL] at h e1 hle;obtain ⟨c, hc⟩ := zE (min 8 ((⟨s.toArray⟩ : ByteArray).size + 1));rw [hc] at h hle;have hc1 : 1 <= c := by omega
 refine h.mono ?_;rintro e w' ⟨he, rfl⟩;refine ⟨some ⟨w.heap.size, 0, none⟩, c, by rw [he, e1, List.length_map], by rw [e1, List.length_map]; omega, ?_, (Below.refl _ _).alloc (Nat.le_refl _) _⟩;rw [e1];refine ⟨by simp [wcells], fun hp => ⟨_, _, rfl, by simp, fun j hj => ?_⟩⟩;have hj' : j < L.length := by simpa using hj
 rw [(Bk.new w _ _).cell];simp [Lib.cellsOf, wcells, sv, hj', List.getElem?_append_left]
theorem y1q (b6 b7 : Nat) (x y : Value) (u : TypeId) (pv : Value) (w : World) (h6 : w.cell? ⟨b6, 0, none⟩ = some x) (f6 : w.frozen? ⟨b6, 0, none⟩ = false) (h7 : (w.setCell ⟨b6, 0, none⟩ (.int .i64 0)).cell? ⟨b7, 0, none⟩ = some y) (f7 : (w.setCell ⟨b6, 0, none⟩ (.int .i64 0)).frozen? ⟨b7, 0, none⟩ = false) :
  CallsD Tryz.prog 299 #[.pointer (some ⟨b6, 0, none⟩), .pointer (some ⟨b7, 0, none⟩)] (.panicking [{ v := .iface u pv, recovered := false }]) w fun e u' w' =>
   e = .returned (.tuple #[]) /\ u' = .panicking [{ v := .iface u pv, recovered := true }] /\ w' = (w.setCell ⟨b6, 0, none⟩ (.int .i64 0)).setCell ⟨b7, 0, none⟩ (.int .i64 4) := by
 refine callsD_of_wpS Tryz.func299 rfl fun c₀ cs hu => ?_;apply wpS_seq;apply wpS_region;simp [wpOpsS, go_sem, recoverD, hu, Tryz.ntmps299, Exit.thenS];refine wpS_cond (t := true) (by simp [Act.eval, Array.replicate]) ?_;simp only [if_true];apply wpS_region;simp [wpOpsS, go_sem, h6, f6, h7, f7, bodyPostS, results, Tryz.results299]
theorem y91 (b6 b7 : Nat) (w : World) :
  CallsD Tryz.prog 299 #[.pointer (some ⟨b6, 0, none⟩), .pointer (some ⟨b7, 0, none⟩)] .returning w fun e u' w' => e = .returned (.tuple #[]) /\ u' = .returning /\ w' = w := by
 refine callsD_of_wpS Tryz.func299 rfl fun c₀ cs hu => ?_;apply wpS_seq;apply wpS_region;simp [wpOpsS, go_sem, recoverD, hu, Tryz.ntmps299, Exit.thenS];refine wpS_cond (t := false) (by simp [Act.eval, Array.replicate]) ?_;simp only [Bool.false_eq_true, if_false];refine wpS_of_wp (wp_skip ?_);cases c₀
 simp_all [bodyPostS, results, Tryz.results299]
theorem y7R {s : Cs.Bs} {n : Nat} (hs : s.length <= n) : ∀ x ∈ Lib.splitN s [32] 8, x.length <= n := by
  have key : ∀ (k : Nat) (s : Cs.Bs), s.length <= n -> ∀ x ∈ Lib.splitK [32] 0 k s, x.length <= n := fun k => by
    induction k with
    | zero =>
      intro s hs x hx;rw [Lib.splitK, List.mem_singleton] at hx;rw [hx]; exact hs
    | succ k ih =>
      intro s hs x hx;rw [Lib.splitK] at hx;split at hx
      · rw [List.mem_singleton] at hx
        rw [hx]; exact hs
      rcases List.mem_cons.1 hx with hx | hx
      · rw [hx, List.length_take]; omega
      exact ih _ (by rw [List.length_drop]; omega) x hx
  exact key _ s hs
theorem yAg (s : Cs.Bs) : 0 < (Lib.splitN s [32] 8).length := by
  have key : ∀ (k : Nat) (s : Cs.Bs), 0 < (Lib.splitK [32] 0 k s).length := fun k s => by
    cases k with
    | zero => simp [Lib.splitK]
    | succ k =>
      rw [Lib.splitK];split <;> simp
  exact key _ s
theorem y0a {P : Program} {fn : Func} {p q : Tmp} {ty ty2 : TypeId} (h : fn.results = #[.cell p ty, .cell q ty2]) (tmps : Array Value) (w : World) (g g2 : Nat) (v v2 : Value) (hp : tmps.getD p undef = .pointer (some ⟨g, 0, none⟩)) (hq : tmps.getD q undef = .pointer (some ⟨g2, 0, none⟩))
  (hc : w.cell? ⟨g, 0, none⟩ = some v) (hc2 : w.cell? ⟨g2, 0, none⟩ = some v2) (ha : ∀ w, (isAgg ty).run P w = .ok false w) (ha2 : ∀ w, (isAgg ty2).run P w = .ok false w) : (results fn tmps).run P w = .ok (.tuple #[v, v2]) w := by
 have hp' : tmps[p]?.getD undef = .pointer (some ⟨g, 0, none⟩) := by simpa using hp
 have hq' : tmps[q]?.getD undef = .pointer (some ⟨g2, 0, none⟩) := by simpa using hq
 simp [results, h, hp', hq', asAddr, go_sem, hc, hc2, ha, ha2, Result.andThen]
theorem y7w (kf kw : Nat) (capS : Array Value) (say : List Cs.Bs -> Option Int) (write : Int -> Cs.Bs) (s : Cs.Bs) (hs : s.length <= 1000000) (w : World) (hE : Env w)
  (hsay : ∀ A c ws W, Below w.heap.size w W -> Env W -> Rd W W.heap.size 1 A ws.length (wcells ws) -> ws.length <= c -> ws.length <= 8 -> (∀ x ∈ ws, x.length <= 1000000) -> 0 < ws.length -> Calls Tryz.prog kf (#[.slice A ws.length c] ++ capS) W fun e w' => Rdn (say ws) e /\ Below W.heap.size W w')
  (hwrite : ∀ n W, Env W -> Calls Tryz.prog kw #[.int .i64 n] W fun e w' => e = .returned (sv (write n)) /\ Below W.heap.size W w')
  (ef : ∀ args w, (callFunc kf args).run Tryz.prog w = .ok (.enter kf args) w) (ew : ∀ args w, (callFunc kw args).run Tryz.prog w = .ok (.enter kw args) w) :
  Calls Tryz.prog 279 #[sv s, .func (.func kf) #[] capS, .func (.func kw) #[] #[]] w fun e w' => e = .returned (.tuple #[.int .i64 (Cs.readF say write s).1, .int .i64 (Cs.readF say write s).2]) /\ Below w.heap.size w w' := by
 have hmf := zM;have hB0 := ((Below.refl w.heap.size w).alloc (Nat.le_refl _) (.cells #[.int .i64 0] 3)).alloc (by simp) (.cells #[.int .i64 0] 31);have kn := (Bk.new w 3 #[.int .i64 0]).alloc (.cells #[.int .i64 0] 31);have ke := Bk.new (w.alloc (.cells #[.int .i64 0] 3)) 31 #[.int .i64 0];rw [World.size_alloc] at ke;have HSP := jQ (yAf s hs _ (hE.step hB0));have HSH := jQ (y7R hs);have hs8 : (Lib.splitN s [32] 8).length <= 8 := by
  have := Lib.splitB_length_le ⟨#[32]⟩ 0 (min 8 (s.length + 1) - 1) ⟨s.toArray⟩;have hd := Lib.splitB_data ⟨#[32]⟩ 0 (min 8 (s.length + 1) - 1) ⟨s.toArray⟩;have h2 := congrArg List.length hd;rw [List.length_map] at h2;have h3 : Lib.splitN s [32] 8 = Lib.splitK [32] 0 (min 8 (s.length + 1) - 1) s := rfl;rw [h3];simp only [] at h2;rw [<- h2];omega
 have HS0 := jQ (yAg s);obtain ⟨ws, hws⟩ := zE (Lib.splitN s [32] 8);rw [hws] at HSP HSH hs8 HS0;have hrf : Cs.readF say write s = match say ws with | none => (0, 4) | some n => if write n = s then (n, 0) else (0, 4) := by rw [<- hws]; rfl
 rw [y06];have HB0 := jQ hB0;have KN := jQ kn;have KE := jQ ke;have HSAY := jQ hsay;have HWR := jQ hwrite;have HE := jQ hE;rcases hsy : say ws with _ | n
 ·rw [hsy] at hrf;simp only [] at hrf;rw [hrf];have HSY := jQ hsy;clear hrf hsy hB0 kn ke hsay hwrite hE hws
  go_enter_defers Tryz.func279, Tryz.ntmps279
  go_wp2_with fail;refine HSP.o.mono ?_;rintro e w1 ⟨A, c, rfl, hc, hR1, hb1⟩;have hB1 := HB0.o.trans (hb1.mono HB0.o.size);have hn1 := KN.o.below hb1 (by simp; omega);have he1 := KE.o.below hb1 (by simp);have hE1 := HE.o.step hB1;have HS1 := jQ (HSAY.o A c ws w1 hB1 hE1 hR1 hc hs8 HSH.o HS0.o);have HB1 := jQ hB1;have HE1 := jQ hE1;have HN1 := jQ hn1;have HE2 := jQ he1;clear hB1 hn1 he1 hE1 hR1 hb1 hc;go_wp2_with fail;refine HS1.o.mono ?_;rintro e w2 ⟨he, hb2⟩;rw [HSY.o] at he;have he' : e = .panicked [{ v := noForm, recovered := false }] := he;subst he';clear he;have kn2 := HN1.o.below hb2 HN1.o.lt;have ke2 := HE2.o.below hb2 HE2.o.lt;have HB2 := jQ (HB1.o.trans (hb2.mono HB1.o.size));clear hb2;simp only [];refine leaves_cons (f := 299) (args := #[.pointer (some ⟨w.heap.size, 0, none⟩), .pointer (some ⟨w.heap.size + 1, 0, none⟩)]) (by simp) (by simp [go_sem]) ?_;refine (y1q w.heap.size (w.heap.size + 1) _ _ _ _ _ ((kn2.cell 0).trans rfl) (kn2.frozen 0) (((ke2.far (p := ⟨w.heap.size, 0, none⟩) (by simp) _).cell 0).trans rfl) ((ke2.far (p := ⟨w.heap.size, 0, none⟩) (by simp) _).frozen 0)).mono ?_;rintro e u' w'' ⟨rfl, rfl, rfl⟩;have k6 := (kn2.set 0 (.int .i64 0)).far (p := ⟨w.heap.size + 1, 0, none⟩) (by simp) (.int .i64 4);have k7 := (ke2.far (p := ⟨w.heap.size, 0, none⟩) (by simp) (.int .i64 0)).set 0 (.int .i64 4);refine ⟨_, y0a rfl _ _ w.heap.size (w.heap.size + 1) _ _ rfl rfl ((k6.cell 0).trans rfl) ((k7.cell 0).trans rfl) Tryz.isAgg3 Tryz.isAgg31, rfl, (HB2.o.setCell (p := ⟨w.heap.size, 0, none⟩) (by simp) _).setCell (p := ⟨w.heap.size + 1, 0, none⟩) (by simp) _⟩
 have HSY := jQ hsy;have hwr := fun W h => hwrite n W h;rw [y06] at hwr;obtain ⟨T, hT⟩ := zE (write n);have hrf2 : Cs.readF say write s = if T = s then (n, 0) else (0, 4) := by rw [hrf, hsy, <- hT]
 rw [hrf2];obtain ⟨R, hR⟩ : ∃ R : Int × Int, (if T = s then (n, 0) else (0, 4)) = R := ⟨_, rfl⟩;rw [hR];have HRES := jQ hR;clear hR;rw [hT] at hwr;have HWN := jQ hwr;clear hrf hrf2 hsy hB0 kn ke hsay hwrite hE hws hT hwr HWR
 go_enter_defers Tryz.func279, Tryz.ntmps279
 go_wp2_with fail;refine HSP.o.mono ?_;rintro e w1 ⟨A, c, rfl, hc, hR1, hb1⟩;have hB1 := HB0.o.trans (hb1.mono HB0.o.size);have hn1 := KN.o.below hb1 (by simp; omega);have he1 := KE.o.below hb1 (by simp);have hE1 := HE.o.step hB1;have HS1 := jQ (HSAY.o A c ws w1 hB1 hE1 hR1 hc hs8 HSH.o HS0.o);have HB1 := jQ hB1;have HE1 := jQ hE1;have HN1 := jQ hn1;have HE2 := jQ he1;clear hB1 hn1 he1 hE1 hR1 hb1 hc;go_wp2_with fail;refine HS1.o.mono ?_;rintro e w2 ⟨he, hb2⟩;rw [HSY.o] at he;have he' : e = .returned (.int .i64 n) := he;subst he';clear he;have kn2 := (HN1.o.below hb2 HN1.o.lt);have KE2 := jQ ((HE2.o.below hb2 HE2.o.lt).far (p := ⟨w.heap.size, 0, none⟩) (by simp) (.int .i64 n));have hB2 := HB1.o.trans (hb2.mono HB1.o.size);have HB3 := jQ (hB2.setCell (p := ⟨w.heap.size, 0, none⟩) (by simp) (.int .i64 n));have HK3 := jQ (kn2.set 0 (.int .i64 n));have n0 := (kn2.cell 0).trans rfl;have f0 := kn2.frozen 0;have l0 := kn2.lt;clear kn2 hB2 hb2;simp only [];go_wp2_with fail;have HE3 := jQ (HE.o.step HB3.o);refine (HWN.o _ HE3.o).mono ?_;rintro e w4 ⟨rfl, hb4⟩;have k4 := HK3.o.below hb4 HK3.o.lt;have e4 := KE2.o.below hb4 KE2.o.lt;have HB4 := jQ (HB3.o.trans (hb4.mono HB3.o.size));clear hb4 n0 f0 l0;rcases hq : (T == s) with _ | _
 ·have hne : ¬ T = s := by simpa using hq
  have HR4 := jQ (show R = (0, 4) by rw [<- HRES.o, if_neg hne]);have KN4 := jQ k4;have KE4 := jQ e4;clear hne k4 e4;go_wp2_with fail;refine leaves_cons (f := 299) (args := #[.pointer (some ⟨w.heap.size, 0, none⟩), .pointer (some ⟨w.heap.size + 1, 0, none⟩)]) (by simp) (by simp [go_sem]) ?_;refine (y1q w.heap.size (w.heap.size + 1) _ _ _ _ _ ((KN4.o.cell 0).trans rfl) (KN4.o.frozen 0) (((KE4.o.far (p := ⟨w.heap.size, 0, none⟩) (by simp) _).cell 0).trans rfl) ((KE4.o.far (p := ⟨w.heap.size, 0, none⟩) (by simp) _).frozen 0)).mono ?_;rintro e u' w'' ⟨rfl, rfl, rfl⟩;have k6 := (KN4.o.set 0 (.int .i64 0)).far (p := ⟨w.heap.size + 1, 0, none⟩) (by simp) (.int .i64 4);have k7 := (KE4.o.far (p := ⟨w.heap.size, 0, none⟩) (by simp) (.int .i64 0)).set 0 (.int .i64 4);refine ⟨_, y0a rfl _ _ w.heap.size (w.heap.size + 1) _ _ rfl rfl ((k6.cell 0).trans rfl) ((k7.cell 0).trans rfl) Tryz.isAgg3 Tryz.isAgg31, by have h := HR4.o; subst h; rfl, (HB4.o.setCell (p := ⟨w.heap.size, 0, none⟩) (by simp) _).setCell (p := ⟨w.heap.size + 1, 0, none⟩) (by simp) _⟩
 have heq : T = s := by simpa using hq
 have HR4 := jQ (show R = (n, 0) by rw [<- HRES.o, if_pos heq]);have n0 := (k4.cell 0).trans rfl;have f0 := k4.frozen 0;have l0 := k4.lt;have g0 := (e4.cell 0).trans rfl;have g1 := e4.frozen 0;have lg := e4.lt;have KN4 := jQ k4;have KE4 := jQ e4;clear heq k4 e4;go_wp2_with fail;refine leaves_cons (f := 299) (args := #[.pointer (some ⟨w.heap.size, 0, none⟩), .pointer (some ⟨w.heap.size + 1, 0, none⟩)]) (by simp) (by simp [go_sem]) ?_;refine (y91 w.heap.size (w.heap.size + 1) _).mono ?_;rintro e u' w'' ⟨rfl, rfl, rfl⟩;have k6 := (KN4.o.set 0 (.int .i64 n)).far (p := ⟨w.heap.size + 1, 0, none⟩) (by simp) (.int .i64 0);have k7 := (KE4.o.far (p := ⟨w.heap.size, 0, none⟩) (by simp) (.int .i64 n)).set 0 (.int .i64 0);refine ⟨_, y0a rfl _ _ w.heap.size (w.heap.size + 1) _ _ rfl rfl ((k6.cell 0).trans rfl) ((k7.cell 0).trans rfl) Tryz.isAgg3 Tryz.isAgg31, by have h := HR4.o; subst h; rfl, (HB4.o.setCell (p := ⟨w.heap.size, 0, none⟩) (by simp) _).setCell (p := ⟨w.heap.size + 1, 0, none⟩) (by simp) _⟩
theorem yBh (g : Nat) (w : World) :
  Calls Tryz.prog 280 #[.func (.func g) #[] #[]] w fun e w' => e = .returned (.func (.func 301) #[] #[.pointer (some ⟨w.heap.size, 0, none⟩)]) /\ w' = w.alloc (.cells #[.func (.func g) #[] #[]] 301) := by
 have hmf := zM;go_enter Tryz.func280, Tryz.ntmps280
 go_wp2
 go_ret;exact ⟨rfl, rfl⟩
theorem y9B (s : Cs.Bs) (hs : s.length <= 1000000) (w : World) (hE : Env w) :
  Calls Tryz.prog 264 #[sv s] w fun e w' => e = .returned (.tuple #[.int .i64 (Cs.lnkF s).1, .int .i64 (Cs.lnkF s).2]) /\ Below w.heap.size w w' := by
 have hB0 := (Below.refl w.heap.size w).alloc (Nat.le_refl _) (.cells #[.func (.func 281) #[] #[]] 301);have kU := Bk.new w 301 #[.func (.func 281) #[] #[]];have hrd := y7w 301 282 #[.pointer (some ⟨w.heap.size, 0, none⟩)] (Cs.sumF Cs.lenU 0) Cs.lenF s hs _ (hE.step hB0)
  (fun A c ws W hb hEW hR hc hn hl _ => yBc 281 lenO (fun n h Kp w => y2E n h Kp w) (enters_of Tryz.func281 (by kernel_rfl) rfl) w.heap.size _ A c ws W hEW (kU.below hb (by simp)) hR hc (by omega) hl)
  (fun n W h => y86 n W h) (enters_of Tryz.func301 (by kernel_rfl) rfl) (enters_of Tryz.func282 (by kernel_rfl) rfl)
 have e1 : Cs.readF (Cs.sumF Cs.lenU 0) Cs.lenF s = Cs.lnkF s := rfl;rw [e1] at hrd;obtain ⟨⟨n, er⟩, hr⟩ : ∃ q, Cs.lnkF s = q := ⟨_, rfl⟩;rw [hr] at hrd ⊢;rw [y06] at hrd ⊢;have HB0 := jQ hB0;have HRD := jQ hrd;clear hB0 kU hrd e1 hr hE;go_enter Tryz.func264, Tryz.ntmps264;go_wp2_with (go_at_call 280; refine (yBh _ _).mono ?_; rintro e w' ⟨rfl, rfl⟩);refine HRD.o.mono ?_;rintro e w1 ⟨rfl, hb1⟩;have HB1 := jQ (HB0.o.trans (hb1.mono HB0.o.size));clear hb1;go_wp2_with fail;go_ret2;exact ⟨rfl, HB1.o⟩
end
end Go.Proofs.YtccikcpcfdjobaaGreatDoor
