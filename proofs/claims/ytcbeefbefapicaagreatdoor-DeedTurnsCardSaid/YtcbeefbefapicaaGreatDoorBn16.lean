/-
  What the claims of layer deed need of the texts DSam, DPts, DLwm, DLwn.
-/
import Derived.Test.YtcbeefbefapicaaGreatDoorBn02
import Derived.Test.YtcbeefbefapicaaGreatDoorBn15
set_option linter.unusedVariables false
set_option linter.unusedSimpArgs false
namespace Go.Proofs.YtcbeefbefapicaaGreatDoor
namespace Dd
theorem len_sub {α : Type} [DecidableEq α] {a : List α} : ∀ {b : List α}, a.Nodup → (∀ x ∈ a, x ∈ b) → a.length ≤ b.length := by
  induction a with
  | nil => intro b _ _; simp
  | cons x r ih =>
    intro b hn hs
    have hx := hs x List.mem_cons_self
    rw [List.nodup_cons] at hn
    have := ih (b := b.erase x) hn.2 (fun y hy => (List.mem_erase_of_ne (fun e => hn.1 (by rw [← e]; exact hy))).2 (hs y (List.mem_cons_of_mem _ hy)))
    rw [List.length_erase_of_mem hx] at this
    have hp : 0 < b.length := List.length_pos_of_mem hx
    simp only [List.length_cons]
    omega
theorem sub_back {α : Type} [DecidableEq α] {a b : List α} (ha : a.Nodup) (hb : b.Nodup) (hs : ∀ x ∈ a, x ∈ b) (hl : a.length = b.length) : ∀ x ∈ b, x ∈ a := by
 intro y hy
 refine Decidable.byContradiction fun hn => ?_
 have := len_sub (a := y :: a) (b := b) (List.nodup_cons.2 ⟨hn, ha⟩) (fun x hx => by
  rcases List.mem_cons.1 hx with rfl | hx
  ·exact hy
  ·exact hs x hx)
 simp only [List.length_cons] at this
 omega
theorem same_len {a b : List Bd} (ha : a.Nodup) (hb : b.Nodup) : (decide (a.length = b.length) && sub a b) = (sub a b && sub b a) := by
 unfold sub
 rw [Bool.eq_iff_iff]
 simp only [Bool.and_eq_true, decide_eq_true_eq, List.all_eq_true]
 constructor
 ·rintro ⟨h1, h2⟩
  exact ⟨h2, sub_back ha hb h2 h1⟩
 ·rintro ⟨h1, h2⟩
  have := len_sub ha h1
  have := len_sub hb h2
  exact ⟨by omega, h1⟩
def gpts (l : List (Int × Int × Int × Int)) : List Int := l.flatMap fun g => [g.2.1, g.1]
theorem to_pts (r : Int) (l : List (Int × Int × Int × Int)) : (l.flatMap (pairB r)).map (·.t) = gpts l := by
 induction l with
 | nil => rfl
 | cons g t ih => simp only [List.flatMap_cons, List.map_append, ih, gpts, pairB]; rfl
theorem ft_pts {r : Int} {l : List (Int × Int × Int × Int)} {x : Int} : (∃ b ∈ l.flatMap (pairB r), b.f = x ∨ b.t = x) ↔ x ∈ gpts l := by
 unfold gpts
 simp only [List.mem_flatMap, pairB]
 constructor
 ·rintro ⟨b, ⟨g, hg, hb⟩, h⟩
  refine ⟨g, hg, ?_⟩
  simp only [List.mem_cons, List.not_mem_nil, or_false] at hb ⊢
  rcases hb with rfl | rfl <;> rcases h with rfl | rfl <;> simp
 ·rintro ⟨g, hg, h⟩
  simp only [List.mem_cons, List.not_mem_nil, or_false] at h
  rcases h with rfl | rfl
  ·exact ⟨⟨g.1, g.2.1, g.2.2.2, r⟩, ⟨g, hg, by simp⟩, .inr rfl⟩
  ·exact ⟨⟨g.1, g.2.1, g.2.2.2, r⟩, ⟨g, hg, by simp⟩, .inl rfl⟩
theorem pt_inj {f : Fd} {l s l' s' : Int} (h0 : 0 ≤ s) (h1 : s < f.st.length) (h2 : 0 ≤ s') (h3 : s' < f.st.length) (h : pt f l s = pt f l' s') : l = l' ∧ s = s' := by
 unfold pt at h
 obtain ⟨n, hn⟩ : ∃ n : Int, (f.st.length : Int) = n := ⟨_, rfl⟩
 rw [hn] at h h1 h3
 have key : ∀ a b u v : Int, 0 ≤ u → u < n → 0 ≤ v → v < n → a * n + u = b * n + v → ¬ a < b := by
  intro a b u v u0 u1 v0 v1 e hab
  have := Int.mul_le_mul_of_nonneg_right (show a + 1 ≤ b by omega) (show 0 ≤ n by omega)
  rw [Int.add_mul] at this
  omega
 have e1 := key l l' s s' h0 h1 h2 h3 (by omega)
 have e2 := key l' l s' s h2 h3 h0 h1 (by omega)
 have : l = l' := by omega
 subst this
 exact ⟨rfl, by omega⟩
theorem pt_range {f : Fd} {l s : Int} (hl : isIx l f.li.length = true) (hs : isIx s f.st.length = true) : 1 ≤ pt f l s ∧ pt f l s < ptsN f := by
 simp only [isIx, decide_eq_true_eq] at hl hs
 obtain ⟨i, rfl⟩ : ∃ i : Nat, l = i := ⟨l.toNat, by omega⟩
 obtain ⟨j, rfl⟩ : ∃ i : Nat, s = i := ⟨s.toNat, by omega⟩
 have e : pt f i j = ((1 + i * f.st.length + j : Nat) : Int) := by unfold pt; simp
 have := row_lt (m := f.li.length) (n := f.st.length) (l := i) (s := j) (by omega) (by omega)
 have hN : ptsN f = 1 + f.li.length * f.st.length := rfl
 rw [e]
 omega
theorem along_mem {f : Fd} {c : Ca} {x : Int} : ∀ {n : Nat} {s : Int}, x ∈ gpts (gapAlong f c n s) ↔ ∃ q : Int, s ≤ q ∧ q < s + n ∧ (x = pt f c.o q ∨ x = pt f c.l q)
  | 0, s => by simp [gapAlong, gpts]; omega
  | n + 1, s => by
    have e : gpts (gapAlong f c (n + 1) s) = pt f c.o s :: pt f c.l s :: gpts (gapAlong f c n (s + 1)) := rfl
    rw [e, List.mem_cons, List.mem_cons, along_mem (n := n) (s := s + 1)]
    constructor
    · rintro (h | h | ⟨q, h1, h2, h3⟩)
      · exact ⟨s, by omega, by omega, .inl h⟩
      · exact ⟨s, by omega, by omega, .inr h⟩
      · exact ⟨q, by omega, by omega, h3⟩
    · rintro ⟨q, h1, h2, h3⟩
      by_cases e : q = s
      · subst e
        rcases h3 with h3 | h3
        · exact .inl h3
        · exact .inr (.inl h3)
      · exact .inr (.inr ⟨q, by omega, by omega, h3⟩)
theorem along_nodup {f : Fd} {c : Ca} (hlo : c.l < c.o) : ∀ (n : Nat) (s : Int), 0 ≤ s → s + n ≤ f.st.length → (gpts (gapAlong f c n s)).Nodup
  | 0, s, _, _ => List.nodup_nil
  | n + 1, s, h0, h1 => by
    have e : gpts (gapAlong f c (n + 1) s) = pt f c.o s :: pt f c.l s :: gpts (gapAlong f c n (s + 1)) := rfl
    rw [e, List.nodup_cons, List.nodup_cons]
    refine ⟨fun hm => ?_, fun hm => ?_, along_nodup hlo n (s + 1) (by omega) (by omega)⟩
    · rcases List.mem_cons.1 hm with h | h
      · have := (pt_inj h0 (by omega) h0 (by omega) h).1
        omega
      · obtain ⟨q, h2, h3, h4 | h4⟩ := along_mem.1 h
        · have := (pt_inj h0 (by omega) (by omega) (by omega) h4).2
          omega
        · have := (pt_inj h0 (by omega) (by omega) (by omega) h4).1
          omega
    · obtain ⟨q, h2, h3, h4 | h4⟩ := along_mem.1 hm
      · have := (pt_inj h0 (by omega) (by omega) (by omega) h4).1
        omega
      · have := (pt_inj h0 (by omega) (by omega) (by omega) h4).2
        omega
theorem gaps_pts {f : Fd} {c : Ca} (h : callG f c = 0) : (gpts (gapsF f c)).Nodup ∧ ∀ x ∈ gpts (gapsF f c), 0 ≤ x ∧ x < ptsN f := by
 obtain ⟨ht, ho, hb, _⟩ := callG_zero h
 simp only [there, Bool.and_eq_true] at ht
 obtain ⟨⟨⟨⟨⟨t1, t2⟩, t3⟩, t4⟩, _⟩, _⟩ := ht
 have i3 := t3
 have i4 := t4
 simp only [isIx, decide_eq_true_eq] at i3 i4
 have hN : 0 < ptsN f := by unfold ptsN; omega
 unfold gapsF
 rcases kind_of ho with k | k | k | k | k
 ·rw [if_pos k]
  have r := pt_range t1 t3
  refine ⟨?_, fun x hx => ?_⟩
  ·show [pt f c.l c.a, 0].Nodup
   simp
   omega
  ·have hx' : x ∈ [pt f c.l c.a, 0] := hx
   simp only [List.mem_cons, List.not_mem_nil, or_false] at hx'
   omega
 ·have ho' : c.l < c.o := by
   unfold ordered at ho
   rw [if_neg (by omega), if_pos k] at ho
   simp only [Bool.and_eq_true, decide_eq_true_eq] at ho
   exact ho.1
  rw [if_neg (by omega), if_pos k]
  have r := pt_range t1 t3
  have r2 := pt_range t2 t3
  refine ⟨?_, fun x hx => ?_⟩
  ·show [pt f c.o c.a, pt f c.l c.a].Nodup
   simp only [List.nodup_cons, List.mem_singleton, List.not_mem_nil, not_false_eq_true, List.nodup_nil, and_true]
   intro e
   have := (pt_inj i3.1 i3.2 i3.1 i3.2 e).1
   omega
  ·have hx' : x ∈ [pt f c.o c.a, pt f c.l c.a] := hx
   simp only [List.mem_cons, List.not_mem_nil, or_false] at hx'
   omega
 ·have ho' : c.a ≠ c.b := by
   unfold ordered at ho
   rw [if_neg (by omega), if_neg (by omega), if_pos (.inl k)] at ho
   simpa using ho
  rw [if_neg (by omega), if_neg (by omega), if_pos k]
  have r := pt_range t1 t3
  have r2 := pt_range t1 t4
  refine ⟨?_, fun x hx => ?_⟩
  ·show [pt f c.l c.b, pt f c.l c.a].Nodup
   simp only [List.nodup_cons, List.mem_singleton, List.not_mem_nil, not_false_eq_true, List.nodup_nil, and_true]
   intro e
   have := (pt_inj i4.1 i4.2 i3.1 i3.2 e).2
   omega
  ·have hx' : x ∈ [pt f c.l c.b, pt f c.l c.a] := hx
   simp only [List.mem_cons, List.not_mem_nil, or_false] at hx'
   omega
 ·have ho' : c.l < c.o ∧ c.a < c.b := by
   unfold ordered at ho
   rw [if_neg (by omega), if_neg (by omega), if_neg (by omega), if_pos k] at ho
   simpa using ho
  rw [if_neg (by omega), if_neg (by omega), if_neg (by omega), if_neg (by omega)]
  refine ⟨along_nodup ho'.1 _ _ (by omega) (by omega), fun x hx => ?_⟩
  obtain ⟨q, q1, q2, q3⟩ := along_mem.1 hx
  have hq : isIx q f.st.length = true := by
   simp only [isIx, decide_eq_true_eq]
   omega
  have r := pt_range t1 hq
  have r2 := pt_range t2 hq
  rcases q3 with rfl | rfl <;> omega
 ·have ho' : c.a ≠ c.b := by
   unfold ordered at ho
   rw [if_neg (by omega), if_neg (by omega), if_pos (.inr k)] at ho
   simpa using ho
  rw [if_neg (by omega), if_neg (by omega), if_neg (by omega), if_pos k]
  have r := pt_range t1 t3
  have r2 := pt_range t1 t4
  refine ⟨?_, fun x hx => ?_⟩
  ·show [pt f c.l c.b, pt f c.l c.a].Nodup
   simp only [List.nodup_cons, List.mem_singleton, List.not_mem_nil, not_false_eq_true, List.nodup_nil, and_true]
   intro e
   have := (pt_inj i4.1 i4.2 i3.1 i3.2 e).2
   omega
  ·have hx' : x ∈ [pt f c.l c.b, pt f c.l c.a] := hx
   simp only [List.mem_cons, List.not_mem_nil, or_false] at hx'
   omega
theorem bnds_nodup {f : Fd} {c : Ca} (h : callG f c = 0) (r : Int) : (bnds f c r).Nodup := by
 have hn := (gaps_pts h).1
 rw [← to_pts r] at hn
 exact (List.pairwise_map.1 hn).imp fun h e => h (congrArg _ e)
theorem same_eq {f : Fd} {c d : Ca} (h : callG f c = 0) (h2 : callG f d = 0) : (decide ((bnds f c 0).length = (bnds f d 0).length) && sub (bnds f c 0) (bnds f d 0)) = (sub (bnds f c 0) (bnds f d 0) && sub (bnds f d 0) (bnds f c 0)) :=
 same_len (bnds_nodup h 0) (bnds_nodup h2 0)
end Dd
end Go.Proofs.YtcbeefbefapicaaGreatDoor

namespace Go.Proofs.YtcbeefbefapicaaGreatDoor
open Go.RowKit
set_option maxRecDepth 100000
theorem fval_def (v : Fv) (f : Dd.Fd) : fval v f = .agg #[.slice v.a1 f.st.length v.c1, .slice v.a2 f.li.length v.c2, .slice v.a3 f.pa.length v.c3, .slice v.a4 f.va.length v.c4] := rfl
theorem mul_small {l : Int} {n : Nat} (h0 : 0 ≤ l) (h1 : l ≤ 1000000) (hn : n ≤ 1000000) : 0 ≤ l * (n : Int) ∧ l * (n : Int) ≤ 1000000000000 := by
 refine ⟨Int.mul_nonneg h0 (by omega), ?_⟩
 have := Int.mul_le_mul h1 (show (n : Int) ≤ 1000000 by omega) (by omega) (by omega)
 omega
theorem pointOf_any (v : Fv) (f : Dd.Fd) (l s : Int) (hn : f.st.length ≤ 1000000) (h0 : 0 ≤ l) (h1 : l ≤ 1000000) (h2 : 0 ≤ s) (h3 : s ≤ 1000000) (w : World) :
  Calls Tryz.prog 30 #[fval v f, .int .i64 l, .int .i64 s] w fun e w' => e = .returned (.int .i64 (Dd.pt f l s)) ∧ Below w.heap.size w w' := by
 have hd : Dd.pt f l s = 1 + l * f.st.length + s := rfl
 obtain ⟨m0, m1⟩ := mul_small h0 h1 hn
 rw [hd, fval_def]
 obtain ⟨P, hP⟩ : ∃ P, l * (f.st.length : Int) = P := ⟨_, rfl⟩
 rw [hP] at m0 m1 ⊢
 clear hd
 go_enter Tryz.func30, Tryz.ntmps30
 go_wp2_with fail
 go_ret
 exact ⟨rfl, (Below.refl _ _).alloc (Nat.le_refl _) _⟩
theorem pts_cast (f : Dd.Fd) : (Dd.ptsN f : Int) = 1 + (f.li.length : Int) * f.st.length := by
 unfold Dd.ptsN
 simp
theorem pointsOf_any (v : Fv) (f : Dd.Fd) (hn : f.st.length ≤ 1000000) (hm : f.li.length ≤ 1000000) (w : World) :
  Calls Tryz.prog 32 #[fval v f] w fun e w' => e = .returned (.int .i64 (Dd.ptsN f)) ∧ Below w.heap.size w w' := by
 obtain ⟨m0, m1⟩ := mul_small (l := f.li.length) (by omega) (by omega) hn
 rw [pts_cast, fval_def]
 obtain ⟨P, hP⟩ : ∃ P, (f.li.length : Int) * (f.st.length : Int) = P := ⟨_, rfl⟩
 rw [hP] at m0 m1 ⊢
 go_enter Tryz.func32, Tryz.ntmps32
 go_wp2_with fail
 go_ret
 exact ⟨rfl, (Below.refl _ _).alloc (Nat.le_refl _) _⟩
set_option maxHeartbeats 4000000 in
theorem Points_any (v : Fv) (f : Dd.Fd) (w : World) (hF : FRd w w.heap.size v f) : Calls Tryz.prog 12 #[fval v f] w fun e w' => e = .returned (.int .i64 (Dd.ptsF f)) ∧ Below w.heap.size w w' := by
 have hd : Dd.ptsF f = if Dd.fieldE f = 0 then (Dd.ptsN f : Int) else 0 := rfl
 have hl1 := hF.l1
 have hl2 := hF.l2
 have S0 := Lib.hid (Fs.new hF)
 have B0 := Lib.hid (fun W (h : Fs w w.heap.size v f W) => checkField_any v f W h.rd)
 have B1 := Lib.hid (fun W => pointsOf_any v f hl1 hl2 W)
 rw [hd]
 obtain ⟨N, hN⟩ : ∃ n : Int, (Dd.ptsN f : Int) = n := ⟨_, rfl⟩
 obtain ⟨ef, hef⟩ : ∃ e, Dd.fieldE f = e := ⟨_, rfl⟩
 rw [hef] at B0 ⊢
 rw [hN] at B1 ⊢
 simp only [fval_def] at B0 B1 ⊢
 obtain ⟨c0, c1, c2, c3, lg⟩ := S0.out.cells
 clear hd hF hef hN
 by_cases he : ef = 0
 ·subst he
  rw [if_pos rfl]
  go_enter Tryz.func12, Tryz.ntmps12
  go_wp2_with fail
  refine (B0.out _ S0.out).mono ?_
  rintro e w1 ⟨rfl, hb⟩
  have S1 := Lib.hid (S0.out.next hb)
  clear hb c0 c1 c2 c3 lg
  obtain ⟨c0, c1, c2, c3, lg⟩ := S1.out.cells
  go_wp2_with fail
  refine (B1.out _).mono ?_
  rintro e w2 ⟨rfl, hb⟩
  have S2 := Lib.hid (S1.out.next hb)
  clear hb c0 c1 c2 c3 lg
  go_wp2_with fail
  go_ret
  exact ⟨rfl, S2.out.b⟩
 ·rw [if_neg he]
  have hne : (ef != 0) = true := by simp [he]
  go_enter Tryz.func12, Tryz.ntmps12
  go_wp2_with fail
  refine (B0.out _ S0.out).mono ?_
  rintro e w1 ⟨rfl, hb⟩
  have S1 := Lib.hid (S0.out.next hb)
  clear hb c0 c1 c2 c3 lg
  go_wp2_with fail
  go_ret
  exact ⟨rfl, S1.out.b⟩
set_option maxHeartbeats 4000000 in
theorem Point_any (v : Fv) (f : Dd.Fd) (l s : Int) (w : World) (hF : FRd w w.heap.size v f) :
  Calls Tryz.prog 10 #[fval v f, .int .i64 l, .int .i64 s] w fun e w' => e = .returned (.tuple #[.int .i64 (Dd.pointF f l s).1, .int .i64 (Dd.pointF f l s).2]) ∧ Below w.heap.size w w' := by
 have hd : Dd.pointF f l s = if Dd.fieldE f ≠ 0 then (0, Dd.fieldE f) else if Dd.isIx l f.li.length && Dd.isIx s f.st.length then (Dd.pt f l s, 0) else (0, 1) := rfl
 have hl1 := hF.l1
 have hl2 := hF.l2
 have S0 := Lib.hid (Fs.new hF)
 have B0 := Lib.hid (fun W (h : Fs w w.heap.size v f W) => checkField_any v f W h.rd)
 have B1 := fun h0 h1 h2 h3 W => pointOf_any v f l s hl1 h0 h1 h2 h3 W
 obtain ⟨R, hR⟩ : ∃ R, Dd.pointF f l s = R := ⟨_, rfl⟩
 obtain ⟨ef, hef⟩ : ∃ e, Dd.fieldE f = e := ⟨_, rfl⟩
 rw [hR, hef] at hd
 rw [hR]
 rw [hef] at B0
 simp only [fval_def] at B0 B1 ⊢
 obtain ⟨c0, c1, c2, c3, lg⟩ := S0.out.cells
 clear hF hef hR
 by_cases he : ef = 0
 ·subst he
  rw [if_neg (by simp)] at hd
  rcases z1 : Dd.isIx l f.li.length with _ | _
  ·rw [z1, Bool.false_and, if_neg (by simp)] at hd
   subst hd
   have D1 := Lib.hid z1
   clear z1 B1
   go_enter Tryz.func10, Tryz.ntmps10
   go_wp2_with fail
   refine (B0.out _ S0.out).mono ?_
   rintro e w1 ⟨rfl, hb⟩
   have S1 := Lib.hid (S0.out.next hb)
   clear hb c0 c1 c2 c3 lg
   obtain ⟨c0, c1, c2, c3, lg⟩ := S1.out.cells
   go_wp2_with (go_at_call 29; refine (isIndex_any _ _ _).mono ?_; (first | rw [D1.out]); rintro e w' ⟨rfl, rfl⟩)
   go_ret2
   exact ⟨rfl, S1.out.b⟩
  ·rcases z2 : Dd.isIx s f.st.length with _ | _
   ·rw [z1, z2, Bool.true_and, if_neg (by simp)] at hd
    subst hd
    have D1 := Lib.hid z1
    have D2 := Lib.hid z2
    clear z1 z2 B1
    go_enter Tryz.func10, Tryz.ntmps10
    go_wp2_with fail
    refine (B0.out _ S0.out).mono ?_
    rintro e w1 ⟨rfl, hb⟩
    have S1 := Lib.hid (S0.out.next hb)
    clear hb c0 c1 c2 c3 lg
    obtain ⟨c0, c1, c2, c3, lg⟩ := S1.out.cells
    go_wp2_with (go_at_call 29; refine (isIndex_any _ _ _).mono ?_; (first | rw [D1.out] | rw [D2.out]); rintro e w' ⟨rfl, rfl⟩)
    go_ret2
    exact ⟨rfl, S1.out.b⟩
   ·rw [z1, z2, Bool.true_and, if_pos rfl] at hd
    subst hd
    have i1 := z1
    have i2 := z2
    simp only [Dd.isIx, decide_eq_true_eq] at i1 i2
    have D1 := Lib.hid z1
    have D2 := Lib.hid z2
    have B1 := Lib.hid (B1 i1.1 (by omega) i2.1 (by omega))
    obtain ⟨p, hp⟩ : ∃ p, Dd.pt f l s = p := ⟨_, rfl⟩
    rw [hp] at B1 ⊢
    clear z1 z2 hp i1 i2
    go_enter Tryz.func10, Tryz.ntmps10
    go_wp2_with fail
    refine (B0.out _ S0.out).mono ?_
    rintro e w1 ⟨rfl, hb⟩
    have S1 := Lib.hid (S0.out.next hb)
    clear hb c0 c1 c2 c3 lg
    obtain ⟨c0, c1, c2, c3, lg⟩ := S1.out.cells
    go_wp2_with (go_at_call 29; refine (isIndex_any _ _ _).mono ?_; (first | rw [D1.out] | rw [D2.out]); rintro e w' ⟨rfl, rfl⟩)
    refine (B1.out _).mono ?_
    rintro e w2 ⟨rfl, hb⟩
    have S2 := Lib.hid (S1.out.next hb)
    clear hb c0 c1 c2 c3 lg
    go_wp2_with fail
    go_ret2
    exact ⟨rfl, S2.out.b⟩
 ·rw [if_pos he] at hd
  subst hd
  have hne : (ef != 0) = true := by simp [he]
  clear B1
  go_enter Tryz.func10, Tryz.ntmps10
  go_wp2_with fail
  refine (B0.out _ S0.out).mono ?_
  rintro e w1 ⟨rfl, hb⟩
  have S1 := Lib.hid (S0.out.next hb)
  clear hb c0 c1 c2 c3 lg
  go_wp2_with fail
  go_ret2
  exact ⟨rfl, S1.out.b⟩
set_option maxHeartbeats 4000000 in
theorem Corner_any (v : Fv) (f : Dd.Fd) (p : Int) (hp64 : -9223372036854775808 ≤ p ∧ p ≤ 9223372036854775807) (w : World) (hF : FRd w w.heap.size v f) :
  Calls Tryz.prog 11 #[fval v f, .int .i64 p] w fun e w' => e = .returned (.tuple #[.int .i64 (Dd.cornerF f p).1, .int .i64 (Dd.cornerF f p).2.1, .int .i64 (Dd.cornerF f p).2.2]) ∧ Below w.heap.size w w' := by
 have hd : Dd.cornerF f p = if Dd.fieldE f ≠ 0 then (0, 0, Dd.fieldE f) else if 1 ≤ p ∧ p < Dd.ptsN f then ((p - 1) / f.st.length, (p - 1) % f.st.length, 0) else (0, 0, 1) := rfl
 have hl1 := hF.l1
 have hl2 := hF.l2
 have S0 := Lib.hid (Fs.new hF)
 have B0 := Lib.hid (fun W (h : Fs w w.heap.size v f W) => checkField_any v f W h.rd)
 have B1 := Lib.hid (fun W => pointsOf_any v f hl1 hl2 W)
 have hff := fun (h : Dd.fieldE f = 0) => Dd.field_facts h
 obtain ⟨m0, m1⟩ := mul_small (l := f.li.length) (by omega) (by omega) hl1
 have hNc := pts_cast f
 obtain ⟨N, hN⟩ : ∃ n : Int, (Dd.ptsN f : Int) = n := ⟨_, rfl⟩
 rw [hN] at hNc
 have hN0 : 0 ≤ N := by omega
 have hN1 : N ≤ 1000000000001 := by omega
 obtain ⟨R, hR⟩ : ∃ R, Dd.cornerF f p = R := ⟨_, rfl⟩
 obtain ⟨ef, hef⟩ : ∃ e, Dd.fieldE f = e := ⟨_, rfl⟩
 rw [hR, hef, hN] at hd
 rw [hR]
 rw [hef] at B0 hff
 rw [hN] at B1
 simp only [fval_def] at B0 B1 ⊢
 obtain ⟨c0, c1, c2, c3, lg⟩ := S0.out.cells
 clear hF hef hR hN m0 m1 hNc
 obtain ⟨p0, p1⟩ := hp64
 by_cases he : ef = 0
 ·subst he
  rw [if_neg (by simp)] at hd
  obtain ⟨_, f2, _⟩ := hff rfl
  clear hff
  rcases z1 : decide (1 ≤ p ∧ p ≤ N - 1) with _ | _
  ·rw [if_neg (by have := of_decide_eq_false z1; omega)] at hd
   subst hd
   have D1 := Lib.hid z1
   clear z1
   go_enter Tryz.func11, Tryz.ntmps11
   go_wp2_with fail
   refine (B0.out _ S0.out).mono ?_
   rintro e w1 ⟨rfl, hb⟩
   have S1 := Lib.hid (S0.out.next hb)
   clear hb c0 c1 c2 c3 lg
   obtain ⟨c0, c1, c2, c3, lg⟩ := S1.out.cells
   go_wp2_with fail
   refine (B1.out _).mono ?_
   rintro e w2 ⟨rfl, hb⟩
   have S2 := Lib.hid (S1.out.next hb)
   clear hb c0 c1 c2 c3 lg
   go_wp2_with (go_at_call 31; refine (dbetween_any _ _ _ _).mono ?_; (first | rw [D1.out]); rintro e w' ⟨rfl, rfl⟩)
   go_ret3
   exact ⟨rfl, S2.out.b⟩
  ·have hr := of_decide_eq_true z1
   rw [if_pos (by omega)] at hd
   subst hd
   have D1 := Lib.hid z1
   have hq : (p - 1).tdiv (f.st.length : Int) = (p - 1) / f.st.length := Int.tdiv_eq_ediv_of_nonneg (by omega)
   have hm : (p - 1).tmod (f.st.length : Int) = (p - 1) % f.st.length := Int.tmod_eq_emod_of_nonneg (by omega)
   have hnz : ¬ (f.st.length : Int) = 0 := by omega
   have hnz2 : ¬ f.st.length = 0 := by omega
   have q0 : 0 ≤ (p - 1) / (f.st.length : Int) := Int.ediv_nonneg (by omega) (by omega)
   have q1 : (p - 1) / (f.st.length : Int) ≤ p - 1 := Int.ediv_le_self _ (by omega)
   have pr0 : 1 ≤ p := hr.1
   have pr1 : p ≤ 1000000000001 := by omega
   clear z1 hr
   go_enter Tryz.func11, Tryz.ntmps11
   go_wp2_with fail
   refine (B0.out _ S0.out).mono ?_
   rintro e w1 ⟨rfl, hb⟩
   have S1 := Lib.hid (S0.out.next hb)
   clear hb c0 c1 c2 c3 lg
   obtain ⟨c0, c1, c2, c3, lg⟩ := S1.out.cells
   go_wp2_with fail
   refine (B1.out _).mono ?_
   rintro e w2 ⟨rfl, hb⟩
   have S2 := Lib.hid (S1.out.next hb)
   clear hb c0 c1 c2 c3 lg
   obtain ⟨c0, c1, c2, c3, lg⟩ := S2.out.cells
   go_upto_region 7 with (go_at_call 31; refine (dbetween_any _ _ _ _).mono ?_; (first | rw [D1.out]); rintro e w' ⟨rfl, rfl⟩)
   go_quiet (fail)
   go_wp2_with fail
   go_ret3
   exact ⟨rfl, ⟨S2.out.b.os, S2.out.b.tape, S2.out.b.output, S2.out.b.size, S2.out.b.block⟩⟩
 ·rw [if_pos he] at hd
  subst hd
  have hne : (ef != 0) = true := by simp [he]
  clear B1 hff
  go_enter Tryz.func11, Tryz.ntmps11
  go_wp2_with fail
  refine (B0.out _ S0.out).mono ?_
  rintro e w1 ⟨rfl, hb⟩
  have S1 := Lib.hid (S0.out.next hb)
  clear hb c0 c1 c2 c3 lg
  go_wp2_with fail
  go_ret3
  exact ⟨rfl, S1.out.b⟩
end Go.Proofs.YtcbeefbefapicaaGreatDoor

namespace Go.Proofs.YtcbeefbefapicaaGreatDoor
namespace Dd
theorem corner_at {f : Fd} (h : fieldE f = 0) {l s : Int} (hl : isIx l f.li.length = true) (hs : isIx s f.st.length = true) : cornerF f (pt f l s) = (l, s, 0) := by
 have hr := pt_range hl hs
 unfold cornerF
 rw [if_neg (by simpa using h), if_pos hr]
 simp only [isIx, decide_eq_true_eq] at hl hs
 unfold pt
 obtain ⟨n, hn⟩ : ∃ n : Int, (f.st.length : Int) = n := ⟨_, rfl⟩
 rw [hn] at hs ⊢
 have e : 1 + l * n + s - 1 = s + n * l := by rw [Int.mul_comm n l]; omega
 rw [e, Int.add_mul_ediv_left _ _ (by omega), Int.add_mul_emod_self_left, Int.ediv_eq_zero_of_lt hs.1 hs.2, Int.emod_eq_of_lt hs.1 hs.2]
 simp
theorem point_ok {f : Fd} {l s p : Int} (h : pointF f l s = (p, 0)) : fieldE f = 0 ∧ isIx l f.li.length = true ∧ isIx s f.st.length = true ∧ p = pt f l s := by
 unfold pointF at h
 split at h
 ·rename_i h1
  simp only [Prod.mk.injEq] at h
  exact absurd h.2 h1
 ·rename_i h1
  split at h
  ·rename_i h2
   simp only [Bool.and_eq_true] at h2
   simp only [Prod.mk.injEq, and_true] at h
   exact ⟨Decidable.not_not.1 h1, h2.1, h2.2, h.symm⟩
  ·simp only [Prod.mk.injEq] at h
   omega
theorem point_corner {f : Fd} {l s p : Int} (h : pointF f l s = (p, 0)) : cornerF f p = (l, s, 0) ∧ 1 ≤ p ∧ p < ptsF f := by
 obtain ⟨h1, h2, h3, rfl⟩ := point_ok h
 refine ⟨corner_at h1 h2 h3, ?_⟩
 unfold ptsF
 rw [if_pos h1]
 exact pt_range h2 h3
theorem corner_ok {f : Fd} {p a b : Int} (h : cornerF f p = (a, b, 0)) : fieldE f = 0 ∧ 1 ≤ p ∧ p < ptsN f ∧ isIx a f.li.length = true ∧ isIx b f.st.length = true ∧ p = pt f a b := by
 unfold cornerF at h
 split at h
 ·rename_i h1
  simp only [Prod.mk.injEq] at h
  exact absurd h.2.2 h1
 ·rename_i h1
  split at h
  ·rename_i h2
   simp only [Prod.mk.injEq, and_true] at h
   obtain ⟨rfl, rfl⟩ := h
   have h0 : fieldE f = 0 := Decidable.not_not.1 h1
   obtain ⟨g1, g2, _⟩ := field_facts h0
   obtain ⟨k, rfl⟩ : ∃ k : Nat, p = k := ⟨p.toNat, by omega⟩
   have hN : ptsN f = 1 + f.li.length * f.st.length := rfl
   obtain ⟨l, s, hl, hs, e⟩ := row_of (m := f.li.length) (n := f.st.length) (p := k) (by omega) (by omega)
   have hli : isIx (l : Int) f.li.length = true := by simp only [isIx, decide_eq_true_eq]; omega
   have hsi : isIx (s : Int) f.st.length = true := by simp only [isIx, decide_eq_true_eq]; omega
   have ept : ((k : Nat) : Int) = pt f l s := by rw [e]; unfold pt; simp
   have hc := corner_at h0 hli hsi
   rw [← ept] at hc
   unfold cornerF at hc
   rw [if_neg h1, if_pos h2] at hc
   simp only [Prod.mk.injEq, and_true] at hc
   rw [hc.1, hc.2]
   exact ⟨h0, h2.1, h2.2, hli, hsi, ept⟩
  ·simp only [Prod.mk.injEq] at h
   omega
theorem corner_point {f : Fd} {p a b : Int} (h : cornerF f p = (a, b, 0)) : pointF f a b = (p, 0) := by
 obtain ⟨h0, _, _, h3, h4, h5⟩ := corner_ok h
 unfold pointF
 rw [if_neg (by simpa using h0), if_pos (by rw [h3, h4]; rfl), h5]
theorem corner_err {f : Fd} (h : fieldE f = 0) (p : Int) : (cornerF f p).2.2 = 0 ↔ 1 ≤ p ∧ p < ptsF f := by
 unfold cornerF ptsF
 rw [if_neg (by simpa using h), if_pos h]
 split
 ·rename_i h1; simp [h1]
 ·rename_i h1; simp; omega
def keepsI (y : List Int) (b : Bd) : Bool := decide (0 ≤ b.f ∧ b.f < y.length) && decide (0 ≤ b.t ∧ b.t < y.length) && keepsB y b
theorem nat_in {f : Fd} {b : Bd} (h : b ∈ nat f) (h1 : 1 ≤ f.li.length) : (0 ≤ b.f ∧ b.f < ptsN f) ∧ 0 ≤ b.t ∧ b.t < ptsN f := by
 have hN : ptsN f = 1 + f.li.length * f.st.length := rfl
 rcases List.mem_append.1 h with h | h
 ·obtain ⟨q, q1, q2, rfl | rfl⟩ := natP_mem.1 h
  ·dsimp only; omega
  ·dsimp only; omega
 ·obtain ⟨q, s, q1, q2, q3, rfl⟩ := natL_mem.1 h
  have a := row_lt (m := f.li.length) (n := f.st.length) (l := q) (s := s) (by omega) q3
  have b := row_lt (m := f.li.length) (n := f.st.length) (l := q + 1) (s := s) (by omega) q3
  dsimp only
  omega
theorem drw_keeps {f : Fd} (hf : fieldE f = 0) (y : List Int) : drw f y = (decide (y.length = ptsN f) && decide (at_ y 0 = 0) && (nat f).all (keepsI y)) := by
 obtain ⟨h1, h2, _⟩ := field_facts hf
 have hN : ptsN f = 1 + f.li.length * f.st.length := rfl
 rw [Bool.eq_iff_iff]
 constructor
 ·intro h
  unfold drw at h
  simp only [Bool.and_eq_true, decide_eq_true_eq, List.all_eq_true] at h ⊢
  refine ⟨h.1.1, fun b hb => ?_⟩
  have := nat_in hb h1
  unfold keepsI
  rw [h.2 b hb, decide_eq_true (by omega), decide_eq_true (by omega)]
  rfl
 ·intro h
  simp only [Bool.and_eq_true, decide_eq_true_eq, List.all_eq_true] at h
  obtain ⟨⟨a1, a2⟩, a3⟩ := h
  have key : ∀ b ∈ nat f, keepsB y b = true := fun b hb => by
   have := a3 b hb
   unfold keepsI at this
   simp only [Bool.and_eq_true] at this
   exact this.2
  have hv : ∀ p : Nat, 1 ≤ p → p < ptsN f → 0 ≤ at_ y (p : Int) ∧ at_ y (p : Int) ≤ 100000 := fun p q1 q2 => by
   have b1 := key ⟨0, p, 100000, 0⟩ (List.mem_append_left _ (natP_mem.2 ⟨p, by omega, by omega, .inl rfl⟩))
   have b2 := key ⟨p, 0, 0, 0⟩ (List.mem_append_left _ (natP_mem.2 ⟨p, by omega, by omega, .inr rfl⟩))
   simp only [keepsB, decide_eq_true_eq] at b1 b2
   omega
  unfold drw
  simp only [Bool.and_eq_true, decide_eq_true_eq, List.all_eq_true]
  refine ⟨⟨⟨a1, a2⟩, fun v hm => ?_⟩, key⟩
  obtain ⟨i, hi, rfl⟩ := List.getElem_of_mem hm
  have e : at_ y (i : Int) = y[i] := by rw [at_nat]; simp [hi]
  by_cases i0 : i = 0
  ·subst i0
   rw [← e]
   have : at_ y ((0 : Nat) : Int) = 0 := a2
   omega
  ·have := hv i (by omega) (by omega)
   omega
theorem bnds_rec (f : Fd) (c : Ca) (r : Int) (y : List Int) : (bnds f c r).all (keepsB y) = (bnds f c 0).all (keepsB y) := by
 unfold bnds
 induction gapsF f c with
 | nil => rfl
 | cons g t ih => rw [List.flatMap_cons, List.flatMap_cons, List.all_append, List.all_append, ih]; rfl
theorem bnds_in {f : Fd} {c : Ca} (h : callG f c = 0) (r : Int) {b : Bd} (hb : b ∈ bnds f c r) : (0 ≤ b.f ∧ b.f < ptsN f) ∧ 0 ≤ b.t ∧ b.t < ptsN f := by
 have hr := (gaps_pts h).2
 have h1 : b.f ∈ gpts (gapsF f c) := ft_pts.1 ⟨b, hb, .inl rfl⟩
 have h2 : b.t ∈ gpts (gapsF f c) := ft_pts.1 ⟨b, hb, .inr rfl⟩
 exact ⟨hr _ h1, hr _ h2⟩
theorem allows_keeps {f : Fd} {c : Ca} (h : callG f c = 0) {y : List Int} (hd : drw f y = true) (r : Int) : (bnds f c 0).all (keepsB y) = (bnds f c r).all (keepsI y) := by
 have hl := (drw_iff.1 hd).1
 rw [← bnds_rec f c r, Bool.eq_iff_iff]
 simp only [List.all_eq_true]
 constructor
 ·intro h1 b hb
  have := bnds_in h r hb
  unfold keepsI
  rw [h1 b hb, decide_eq_true (by omega), decide_eq_true (by omega)]
  rfl
 ·intro h1 b hb
  have := h1 b hb
  unfold keepsI at this
  simp only [Bool.and_eq_true] at this
  exact this.2
theorem near_more {a b m m' : Int} (h : m ≤ m') (hn : near a b m = true) : near a b m' = true := by
 unfold near at hn ⊢
 simp only [Bool.and_eq_true, decide_eq_true_eq] at hn ⊢
 omega
theorem fits_more {vs : List (Int × Int)} {a b : Cs.Co} (h : Cs.narF a b = true) {dx dy : Int} (ha : (Cs.fitsF vs a dx dy).1 = true) (hb : (Cs.fitsF vs b dx dy).2 = 0) : (Cs.fitsF vs b dx dy).1 = true := by
 unfold Cs.fitsF Cs.misfitF at *
 simp only [Bool.and_eq_true, decide_eq_true_eq] at ha ⊢
 split at ha
 ·rename_i h1
  exact absurd ha.1 h1
 ·split at hb
  ·rename_i h1
   exact absurd hb h1
  ·rename_i h1
   rw [if_neg h1]
   exact ⟨rfl, Cs.misF_in vs h ha.2⟩
theorem allows_less {f : Fd} {c d : Ca} {y : List Int} (hc : callG f c = 0) (hd : callG f d = 0) (hy : drw f y = true) (hk : c.k ≠ 3) {e : Int} (he : e ≤ c.e) (hdc : d = { c with e := e })
  (ha : (bnds f d 0).all (keepsB y) = true) : (bnds f c 0).all (keepsB y) = true := by
 rw [← rallow_eq hd hy] at ha
 rw [← rallow_eq hc hy]
 subst hdc
 unfold rallow at ha ⊢
 dsimp only at ha
 by_cases k1 : c.k = 1
 ·rw [if_pos k1] at ha ⊢
  exact near_more he ha
 ·rw [if_neg k1] at ha ⊢
  by_cases k2 : c.k = 2
  ·rw [if_pos k2] at ha ⊢
   exact near_more he ha
  ·rw [if_neg k2] at ha ⊢
   by_cases k5 : c.k = 5
   ·rw [if_pos k5] at ha ⊢
    exact near_more he ha
   ·rw [if_neg k5] at ha ⊢
    rw [if_neg hk] at ha ⊢
    have : ∀ (n : Nat) (s : Int), evenA f { c with e := e } y n s = evenA f c y n s := by
     intro n
     induction n with
     | zero => intro s; rfl
     | succ n ih => intro s; rw [evenA, evenA, ih]
    rw [this] at ha
    exact ha
theorem allows_nar {f : Fd} {c d : Ca} {y : List Int} (hc : callG f c = 0) (hd : callG f d = 0) (hy : drw f y = true) (hk : c.k = 3) {co : Cs.Co} (hn : Cs.narF co c.c = true) (hdc : d = { c with c := co })
  (ha : (bnds f d 0).all (keepsB y) = true) : (bnds f c 0).all (keepsB y) = true := by
 rw [← rallow_eq hd hy] at ha
 rw [← rallow_eq hc hy]
 obtain ⟨ht, _, _, h3⟩ := callG_zero hc
 obtain ⟨e1, e2⟩ := h3 hk
 have he : Cs.eastE f.va [c.c] (run f c) = 0 := by
  rcases Int.decEq (Cs.eastE f.va [c.c] (run f c)) 0 with h | h
  ·rw [Cs.comF_err1 h] at e1; exact absurd e1 h
  ·exact h
 simp only [there, Bool.and_eq_true] at ht
 have a1 := at_off hy ht.1.1.1.1.1 ht.1.1.2
 have a2 := at_off hy ht.1.1.1.1.1 ht.1.1.1.2
 have hf := Cs.fits_of he (y := at_ y (pt f c.l c.b) - at_ y (pt f c.l c.a)) (by omega) (by omega)
 subst hdc
 unfold rallow at ha ⊢
 dsimp only at ha
 rw [if_neg (by omega), if_neg (by omega), if_neg (by omega), if_pos hk] at ha ⊢
 exact fits_more hn ha (by rw [hf])
theorem int_turn (vs : List (Int × Int)) {c : Cs.Co} (h : Cs.courseOk c = true) {dx : Int} (hx : dx ≠ 0) : Cs.intF vs (Cs.turn c) (-dx) = (-(Cs.intF vs c dx).2.1, -(Cs.intF vs c dx).1, (Cs.intF vs c dx).2.2) := by
 have ht := Cs.turn_turn h
 unfold Cs.intF Cs.aimEast
 by_cases hd : 0 < dx
 ·rw [if_pos hd, if_neg (by omega), if_pos (by omega), if_neg (by omega), ht, Int.neg_neg]
 ·rw [if_neg hd, if_pos (by omega), if_neg (by omega), if_pos (by omega)]
  simp
theorem dec_turn (vs : List (Int × Int)) {c : Cs.Co} (h : Cs.courseOk (Cs.turn c) = Cs.courseOk c) : Cs.checkE vs [Cs.turn c] = Cs.checkE vs [c] := by
 unfold Cs.checkE
 simp only [List.all_cons, List.all_nil, Bool.and_true, h]
 rfl
theorem com_turn {vs : List (Int × Int)} {c : Cs.Co} {dx : Int} (h : (Cs.comF vs [c] dx).2 = 0) (hok : (Cs.comF vs [c] dx).1.2.2 = true) :
  Cs.comF vs [Cs.turn c] (-dx) = ((-(Cs.comF vs [c] dx).1.2.1, -(Cs.comF vs [c] dx).1.1, true), 0) := by
 have he : Cs.eastE vs [c] dx = 0 := by
  rcases Int.decEq (Cs.eastE vs [c] dx) 0 with h1 | h1
  ·rw [Cs.comF_err1 h1] at h; exact absurd h h1
  ·exact h1
 obtain ⟨g1, g2, g3, g4⟩ := Cs.east_ok he
 have g5 := Cs.turn_ok g1
 have he2 : Cs.eastE vs [Cs.turn c] (-dx) = 0 := by
  unfold Cs.eastE at he ⊢
  rw [dec_turn vs (by rw [g5, g1])]
  split at he
  ·rename_i h1; exact absurd he h1
  ·rename_i h1
   rw [if_neg h1]
   rw [if_neg (by omega)]
 have hz := Cs.comF_zero he
 have hz2 := Cs.comF_zero he2
 have o1 := Cs.comG_one vs g1 g2 g3 g4
 have o2 := Cs.comG_one vs g5 (dx := -dx) (by omega) (by omega) (by omega)
 rw [int_turn vs g1 g2] at o2
 rw [hz] at hok
 dsimp only at hok
 rw [o1] at hok
 rcases hb : (Cs.intF vs c dx).2.2 with _ | _
 ·rw [hb] at hok; simp at hok
 ·rw [hb] at o1 o2
  rw [hz2, hz, o1, o2]
  simp
theorem turnC_turnC {f : Fd} {c : Ca} (h : callG f c = 0) : turnC (turnC c) = c := by
 obtain ⟨ht, ho, hb, h3⟩ := callG_zero h
 obtain ⟨k, l, o, a, b, s, e, co⟩ := c
 unfold turnC
 dsimp only
 by_cases k3 : k = 3
 ·subst k3
  have e1 := (h3 rfl).1
  dsimp only at e1
  have hk : Cs.courseOk co = true := by
   have he : Cs.eastE f.va [co] (run f ⟨3, l, o, a, b, s, e, co⟩) = 0 := by
    rcases Int.decEq (Cs.eastE f.va [co] (run f ⟨3, l, o, a, b, s, e, co⟩)) 0 with h1 | h1
    ·rw [Cs.comF_err1 h1] at e1; exact absurd e1 h1
    ·exact h1
   exact (Cs.east_ok he).1
  have e2 : (Cs.revF co).1 = Cs.turn co := by unfold Cs.revF; rw [if_pos hk]
  have e3 : (Cs.revF (Cs.turn co)).1 = co := by unfold Cs.revF; rw [if_pos (Cs.turn_ok hk)]; exact Cs.turn_turn hk
  simp only [if_true, e2, e3]
 ·by_cases k5 : k = 5
  ·subst k5
   simp
  ·simp [k3, k5]
end Dd
end Go.Proofs.YtcbeefbefapicaaGreatDoor

namespace Go.Proofs.YtcbeefbefapicaaGreatDoor
namespace Dd
theorem east_of {f : Fd} {c : Ca} (h : callG f c = 0) (k3 : c.k = 3) : Cs.courseOk c.c = true := by
 have e1 := ((callG_zero h).2.2.2 k3).1
 have he : Cs.eastE f.va [c.c] (run f c) = 0 := by
  rcases Int.decEq (Cs.eastE f.va [c.c] (run f c)) 0 with h1 | h1
  ·rw [Cs.comF_err1 h1] at e1; exact absurd e1 h1
  ·exact h1
 exact (Cs.east_ok he).1
theorem turnC3 {f : Fd} {c : Ca} (h : callG f c = 0) (k3 : c.k = 3) : turnC c = { c with a := c.b, b := c.a, c := Cs.turn c.c } := by
 have e2 : (Cs.revF c.c).1 = Cs.turn c.c := by unfold Cs.revF; rw [if_pos (east_of h k3)]
 unfold turnC
 rw [if_pos k3, e2]
theorem turnC5 {c : Ca} (k5 : c.k = 5) : turnC c = { c with a := c.b, b := c.a, s := -c.s } := by
 unfold turnC
 rw [if_neg (by omega), if_pos k5]
theorem turnC_else {c : Ca} (k3 : c.k ≠ 3) (k5 : c.k ≠ 5) : turnC c = c := by
 unfold turnC
 rw [if_neg k3, if_neg k5]
theorem run_turn {f : Fd} {c : Ca} (h : callG f c = 0) (k3 : c.k = 3) : run f (turnC c) = -run f c := by
 rw [turnC3 h k3]
 unfold run
 dsimp only
 omega
theorem com_back {f : Fd} {c : Ca} (h : callG f c = 0) (k3 : c.k = 3) :
  Cs.comF f.va [(turnC c).c] (run f (turnC c)) = ((-(Cs.comF f.va [c.c] (run f c)).1.2.1, -(Cs.comF f.va [c.c] (run f c)).1.1, true), 0) := by
 obtain ⟨e1, e2⟩ := (callG_zero h).2.2.2 k3
 rw [run_turn h k3, turnC3 h k3]
 exact com_turn e1 e2
theorem back_call {f : Fd} {c : Ca} (h : callG f c = 0) : callG f (turnC c) = 0 := by
 obtain ⟨ht, ho, hb, h3⟩ := callG_zero h
 by_cases k3 : c.k = 3
 ·have hc := com_back h k3
  have e := turnC3 h k3
  unfold callG
  rw [hc]
  have hk : (turnC c).k = 3 := by rw [e]; exact k3
  have h1 : there f (turnC c) = true := by
   rw [e]
   unfold there at ht ⊢
   simp only [Bool.and_eq_true] at ht ⊢
   exact ⟨⟨⟨⟨⟨ht.1.1.1.1.1, ht.1.1.1.1.2⟩, ht.1.1.2⟩, ht.1.1.1.2⟩, ht.1.2⟩, ht.2⟩
  have h2 : ordered (turnC c) = true := by
   rw [e]
   unfold ordered at ho ⊢
   dsimp only
   rw [if_neg (by omega), if_neg (by omega), if_pos (.inl k3)] at ho ⊢
   simp only [decide_eq_true_eq] at ho ⊢
   omega
  have h4 : bare (turnC c) = true := by
   rw [e]
   unfold bare at hb ⊢
   dsimp only
   rw [if_neg (by omega), if_neg (by omega), if_pos k3] at hb ⊢
   exact hb
  rw [h1, h2, h4, hk]
  simp
 ·by_cases k5 : c.k = 5
  ·have e := turnC5 k5
   have hk : (turnC c).k = 5 := by rw [e]; exact k5
   have h1 : there f (turnC c) = true := by
    rw [e]
    unfold there at ht ⊢
    simp only [Bool.and_eq_true, decide_eq_true_eq] at ht ⊢
    exact ⟨⟨⟨⟨⟨ht.1.1.1.1.1, ht.1.1.1.1.2⟩, ht.1.1.2⟩, ht.1.1.1.2⟩, by omega⟩, ht.2⟩
   have h2 : ordered (turnC c) = true := by
    rw [e]
    unfold ordered at ho ⊢
    dsimp only
    rw [if_neg (by omega), if_neg (by omega), if_pos (.inr k5)] at ho ⊢
    simp only [decide_eq_true_eq] at ho ⊢
    omega
   have h4 : bare (turnC c) = true := by
    rw [e]
    unfold bare at hb ⊢
    dsimp only
    rw [if_neg (by omega), if_neg (by omega), if_neg (by omega), if_neg (by omega), if_pos k5] at hb ⊢
    exact hb
   unfold callG
   rw [h1, h2, h4, hk]
   simp
  ·rw [turnC_else k3 k5]
   exact h
theorem back_bnds {f : Fd} {c : Ca} (h : callG f c = 0) (r : Int) (b : Bd) : b ∈ bnds f (turnC c) r ↔ b ∈ bnds f c r := by
 by_cases k3 : c.k = 3
 ·have hc := com_back h k3
  have e := turnC3 h k3
  have hk : (turnC c).k = 3 := by rw [e]; exact k3
  have g1 : gapsF f c = [(pt f c.l c.a, pt f c.l c.b, (Cs.comF f.va [c.c] (run f c)).1.1, (Cs.comF f.va [c.c] (run f c)).1.2.1)] := by
   unfold gapsF
   rw [if_neg (by omega), if_neg (by omega), if_pos k3]
  have g2 : gapsF f (turnC c) = [(pt f c.l c.b, pt f c.l c.a, -(Cs.comF f.va [c.c] (run f c)).1.2.1, -(Cs.comF f.va [c.c] (run f c)).1.1)] := by
   unfold gapsF
   rw [if_neg (by omega), if_neg (by omega), if_pos hk, hc, e]
  unfold bnds
  rw [g1, g2]
  simp only [pairB, List.flatMap_cons, List.flatMap_nil, List.append_nil, List.mem_cons, List.not_mem_nil, or_false, Int.neg_neg]
  exact Or.comm
 ·by_cases k5 : c.k = 5
  ·have e := turnC5 k5
   have hk : (turnC c).k = 5 := by rw [e]; exact k5
   have g1 : gapsF f c = [(pt f c.l c.a, pt f c.l c.b, c.s - c.e, c.s + c.e)] := by
    unfold gapsF
    rw [if_neg (by omega), if_neg (by omega), if_neg (by omega), if_pos k5]
   have g2 : gapsF f (turnC c) = [(pt f c.l c.b, pt f c.l c.a, -c.s - c.e, -c.s + c.e)] := by
    unfold gapsF
    rw [if_neg (by omega), if_neg (by omega), if_neg (by omega), if_pos hk, e]
   unfold bnds
   rw [g1, g2]
   simp only [pairB, List.flatMap_cons, List.flatMap_nil, List.append_nil, List.mem_cons, List.not_mem_nil, or_false]
   rw [show -(-c.s - c.e) = c.s + c.e by omega, show -(c.s - c.e) = -c.s + c.e by omega]
   exact Or.comm
  ·rw [turnC_else k3 k5]
theorem back_same {f : Fd} {c : Ca} (h : callG f c = 0) : (sub (bnds f c 0) (bnds f (turnC c) 0) && sub (bnds f (turnC c) 0) (bnds f c 0)) = true := by
 unfold sub
 simp only [Bool.and_eq_true, List.all_eq_true, decide_eq_true_eq]
 exact ⟨fun b hb => (back_bnds h 0 b).2 hb, fun b hb => (back_bnds h 0 b).1 hb⟩
theorem back_allows {f : Fd} {c : Ca} (h : callG f c = 0) (y : List Int) : (bnds f (turnC c) 0).all (keepsB y) = (bnds f c 0).all (keepsB y) := by
 rw [Bool.eq_iff_iff]
 simp only [List.all_eq_true]
 exact ⟨fun h1 b hb => h1 b ((back_bnds h 0 b).2 hb), fun h1 b hb => h1 b ((back_bnds h 0 b).1 hb)⟩
def mv (f : Fd) (dx : Int) : Fd := { f with st := f.st.map fun s => (s.1, s.2 + dx) }
theorem upA_mv (dx : Int) : ∀ (l : List Int) (a : Int), upA (a + dx) (l.map (· + dx)) = upA a l
  | [], _ => rfl
  | b :: r, a => by
    rw [List.map_cons, upA, upA, upA_mv dx r b]
    congr 2
    apply propext
    omega
theorem upF_mv (dx : Int) (l : List Int) : upF (l.map (· + dx)) = upF l := by
 cases l with
 | nil => rfl
 | cons a r => exact upA_mv dx r a
theorem mv_names (f : Fd) (dx : Int) : (mv f dx).st.map (·.1) = f.st.map (·.1) := by
 unfold mv
 simp
theorem mv_len (f : Fd) (dx : Int) : (mv f dx).st.length = f.st.length := by
 unfold mv
 simp
theorem fieldE_mv {f : Fd} {dx : Int} (h : fieldE f = 0) (hx : ∀ s ∈ f.st, 0 ≤ s.2 + dx ∧ s.2 + dx ≤ 100000) : fieldE (mv f dx) = 0 := by
 obtain ⟨h1, h2, h3, h4, h5, h6, h7, h8, h9, h10⟩ := field_facts h
 have hl := mv_len f dx
 have n7 : namesF (mv f dx) = true := by
  unfold namesF at h7 ⊢
  rw [mv_names]
  exact h7
 have n8 : distF (mv f dx) = true := by
  unfold distF at h8 ⊢
  rw [mv_names]
  exact h8
 have n9 : rangeF (mv f dx) = true := by
  unfold rangeF at h9 ⊢
  simp only [Bool.and_eq_true] at h9 ⊢
  refine ⟨?_, ?_⟩
  ·rw [List.all_eq_true]
   intro s hs
   unfold mv at hs
   simp only [List.mem_map] at hs
   obtain ⟨t, ht, rfl⟩ := hs
   have := hx t ht
   simp [xOk, this]
  ·have e : paOk (mv f dx) = paOk f := by
    funext p
    unfold paOk
    rw [hl]
    rfl
   rw [e]
   exact h9.2
 have n10 : orderF (mv f dx) = true := by
  unfold orderF at h10 ⊢
  have e : (mv f dx).st.map (·.2) = (f.st.map (·.2)).map (· + dx) := by
   unfold mv
   simp [List.map_map]
  rw [e, upF_mv]
  exact h10
 unfold fieldE
 rw [if_neg (by rw [hl]; show ¬ (12 < f.st.length ∨ 10 < f.li.length ∨ 40 < f.pa.length); omega), if_neg (by rw [hl]; show ¬ (f.st.length < 2 ∨ f.li.length = 0); omega), if_neg (by show ¬ Cs.varsE f.va ≠ 0; omega), if_neg (by rw [n7]; simp),
  if_neg (by rw [n8]; simp), if_neg (by rw [n9]; simp), if_neg (by rw [n10]; simp)]
theorem nat_mv (f : Fd) (dx : Int) : nat (mv f dx) = nat f := by
 unfold nat ptsN
 rw [mv_len]
 rfl
theorem pt_mv (f : Fd) (dx l s : Int) : pt (mv f dx) l s = pt f l s := by
 unfold pt
 rw [mv_len]
theorem run_mv {f : Fd} {c : Ca} {dx : Int} (ha : isIx c.a f.st.length = true) (hb : isIx c.b f.st.length = true) : run (mv f dx) c = run f c := by
 simp only [isIx, decide_eq_true_eq] at ha hb
 have hx : ∀ i : Int, 0 ≤ i → i < f.st.length → xAt (mv f dx) i = xAt f i + dx := fun i h0 h1 => by
  unfold xAt mv
  have : i.toNat < f.st.length := by omega
  simp [this]
 unfold run
 rw [hx _ hb.1 hb.2, hx _ ha.1 ha.2]
 omega
theorem there_mv (f : Fd) (c : Ca) (dx : Int) : there (mv f dx) c = there f c := by
 unfold there
 rw [mv_len]
 rfl
theorem callG_mv (f : Fd) (c : Ca) (dx : Int) : callG (mv f dx) c = callG f c := by
 unfold callG
 rw [there_mv]
 by_cases ht : (there f c && ordered c && bare c) = true
 ·rw [if_pos ht, if_pos ht]
  simp only [Bool.and_eq_true] at ht
  obtain ⟨⟨ht, _⟩, _⟩ := ht
  unfold there at ht
  simp only [Bool.and_eq_true] at ht
  rw [run_mv ht.1.1.1.2 ht.1.1.2]
  rfl
 ·rw [if_neg ht, if_neg ht]
theorem along_mv (f : Fd) (c : Ca) (dx : Int) : ∀ (n : Nat) (s : Int), gapAlong (mv f dx) c n s = gapAlong f c n s
 | 0, _ => rfl
 | n + 1, s => by rw [gapAlong, gapAlong, pt_mv, pt_mv, along_mv f c dx n (s + 1)]
theorem bnds_mv {f : Fd} {c : Ca} (h : callG f c = 0) (dx r : Int) : bnds (mv f dx) c r = bnds f c r := by
 obtain ⟨ht, _⟩ := callG_zero h
 unfold there at ht
 simp only [Bool.and_eq_true] at ht
 unfold bnds gapsF
 rw [run_mv ht.1.1.1.2 ht.1.1.2, along_mv]
 simp only [pt_mv]
 rfl
theorem boundsF_mv {f : Fd} {c : Ca} {dx r : Int} (h : fieldE f = 0) (h2 : fieldE (mv f dx) = 0) : boundsF (mv f dx) c r = boundsF f c r := by
 unfold boundsF callE
 rw [h, h2]
 simp only [ne_eq, not_true, if_false, callG_mv]
 by_cases hc : callG f c = 0
 ·rw [bnds_mv hc]
 ·rw [if_pos (by simpa using hc), if_pos (by simpa using hc)]
end Dd
end Go.Proofs.YtcbeefbefapicaaGreatDoor
