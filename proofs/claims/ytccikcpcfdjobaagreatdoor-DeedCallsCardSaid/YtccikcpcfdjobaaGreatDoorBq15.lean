/-
  What the claims of layer deed need of the texts DSam, DPts, DBm, DQa, DQn.
-/
import Derived.Test.YtccikcpcfdjobaaGreatDoorBq01
import Derived.Test.YtccikcpcfdjobaaGreatDoorBq14
import Derived.Test.YtccikcpcfdjobaaGreatDoorBq09
import Derived.Test.YtccikcpcfdjobaaGreatDoorBq06
import Derived.Test.YtccikcpcfdjobaaGreatDoorBz
set_option linter.unusedVariables false
set_option linter.unusedSimpArgs false
set_option maxHeartbeats 8000000
set_option maxRecDepth 100000
namespace Go.Proofs.YtccikcpcfdjobaaGreatDoor
section
namespace Dd
theorem incr_ext : ∀ a b : List Int, a.Pairwise (· < ·) → b.Pairwise (· < ·) → (∀ x, x ∈ a ↔ x ∈ b) → a = b
  | [], [], _, _, _ => rfl
  | [], y :: t, _, _, h => absurd ((h y).2 List.mem_cons_self) (by simp)
  | x :: r, [], _, _, h => absurd ((h x).1 List.mem_cons_self) (by simp)
  | x :: r, y :: t, ha, hb, h => by
    rw [List.pairwise_cons] at ha hb
    have hxy : x = y := by
      rcases List.mem_cons.1 ((h x).1 List.mem_cons_self) with e | h1
      · exact e
      · rcases List.mem_cons.1 ((h y).2 List.mem_cons_self) with e | h2
        · exact e.symm
        · have := ha.1 y h2
          have := hb.1 x h1
          omega
    subst hxy
    congr 1
    refine incr_ext r t ha.2 hb.2 fun z => ?_
    constructor
    · intro hz
      rcases List.mem_cons.1 ((h z).1 (List.mem_cons_of_mem _ hz)) with e | h1
      · subst e; have := ha.1 z hz; omega
      · exact h1
    · intro hz
      rcases List.mem_cons.1 ((h z).2 (List.mem_cons_of_mem _ hz)) with e | h1
      · subst e; have := hb.1 z hz; omega
      · exact h1
theorem sort_incr {l : List Int} (h : l.Nodup) : (l.mergeSort fun x y => decide (x ≤ y)).Pairwise (· < ·) := by
 have hp := List.mergeSort_perm l (fun x y => decide (x ≤ y))
 have hs := List.pairwise_mergeSort (le := fun x y : Int => decide (x ≤ y)) (by intro a b c h1 h2; simp at *; omega) (by intro a b; simp; omega) l
 have hn : (l.mergeSort fun x y => decide (x ≤ y)).Nodup := hp.nodup_iff.2 h
 refine (hs.and hn).imp ?_
 rintro a b ⟨h1, h2⟩
 simp only [decide_eq_true_eq] at h1
 omega
theorem concA_mem {l : List Bd} {x : Int} : ∀ {n p : Nat}, x ∈ concA l n p ↔ ∃ q : Nat, x = q ∧ p ≤ q ∧ q < p + n ∧ ∃ b ∈ l, b.f = x ∨ b.t = x
  | 0, p => by simp [concA]; omega
  | n + 1, p => by
    rw [concA, List.mem_append, concA_mem (n := n) (p := p + 1)]
    constructor
    · rintro (h | ⟨q, h1, h2, h3, h4⟩)
      · split at h
        · rename_i hc
          rw [List.mem_singleton] at h
          subst h
          simp only [List.any_eq_true, Bool.or_eq_true, decide_eq_true_eq] at hc
          exact ⟨p, rfl, Nat.le_refl _, by omega, hc⟩
        · cases h
      · exact ⟨q, h1, by omega, by omega, h4⟩
    · rintro ⟨q, rfl, h2, h3, h4⟩
      by_cases e : q = p
      · subst e
        refine .inl ?_
        rw [if_pos]
        · exact List.mem_singleton.2 rfl
        · simp only [List.any_eq_true, Bool.or_eq_true, decide_eq_true_eq]
          exact h4
      · exact .inr ⟨q, rfl, by omega, by omega, h4⟩
theorem concA_incr (l : List Bd) : ∀ n p : Nat, (concA l n p).Pairwise (· < ·)
  | 0, p => List.Pairwise.nil
  | n + 1, p => by
    rw [concA, List.pairwise_append]
    refine ⟨by split <;> simp, concA_incr l n (p + 1), fun x hx y hy => ?_⟩
    obtain ⟨q, rfl, h1, _⟩ := concA_mem.1 hy
    split at hx
    · rw [List.mem_singleton] at hx
      omega
    · cases hx
def gpts (l : List (Int × Int × Int × Int)) : List Int := l.flatMap fun g => [g.2.1, g.1]
theorem to_pts (r : Int) (l : List (Int × Int × Int × Int)) : (l.flatMap (pairB r)).map (·.t) = gpts l := by
 induction l with
 | nil => rfl
 | cons g t ih => simp only [List.flatMap_cons, List.map_append, ih, gpts, pairB]; rfl
theorem ft_pts {r : Int} {l : List (Int × Int × Int × Int)} {x : Int} : (∃ b ∈ l.flatMap (pairB r), b.f = x ∨ b.t = x) ↔ x ∈ gpts l := by
 unfold gpts
 simp only [List.mem_flatMap, pairB]
 constructor
 ·rintro ⟨b, ⟨g, hg, hb⟩, h⟩
  refine ⟨g, hg, ?_⟩
  simp only [List.mem_cons, List.not_mem_nil, or_false] at hb ⊢
  rcases hb with rfl | rfl <;> rcases h with rfl | rfl <;> simp
 ·rintro ⟨g, hg, h⟩
  simp only [List.mem_cons, List.not_mem_nil, or_false] at h
  rcases h with rfl | rfl
  ·exact ⟨⟨g.1, g.2.1, g.2.2.2, r⟩, ⟨g, hg, by simp⟩, .inr rfl⟩
  ·exact ⟨⟨g.1, g.2.1, g.2.2.2, r⟩, ⟨g, hg, by simp⟩, .inl rfl⟩
theorem pt_inj {f : Fd} {l s l' s' : Int} (h0 : 0 ≤ s) (h1 : s < f.st.length) (h2 : 0 ≤ s') (h3 : s' < f.st.length) (h : pt f l s = pt f l' s') : l = l' ∧ s = s' := by
 unfold pt at h
 obtain ⟨n, hn⟩ : ∃ n : Int, (f.st.length : Int) = n := ⟨_, rfl⟩
 rw [hn] at h h1 h3
 have key : ∀ a b u v : Int, 0 ≤ u → u < n → 0 ≤ v → v < n → a * n + u = b * n + v → ¬ a < b := by
  intro a b u v u0 u1 v0 v1 e hab
  have := Int.mul_le_mul_of_nonneg_right (show a + 1 ≤ b by omega) (show 0 ≤ n by omega)
  rw [Int.add_mul] at this
  omega
 have e1 := key l l' s s' h0 h1 h2 h3 (by omega)
 have e2 := key l' l s' s h2 h3 h0 h1 (by omega)
 have : l = l' := by omega
 subst this
 exact ⟨rfl, by omega⟩
theorem pt_range {f : Fd} {l s : Int} (hl : isIx l f.li.length = true) (hs : isIx s f.st.length = true) : 1 ≤ pt f l s ∧ pt f l s < ptsN f := by
 simp only [isIx, decide_eq_true_eq] at hl hs
 obtain ⟨i, rfl⟩ : ∃ i : Nat, l = i := ⟨l.toNat, by omega⟩
 obtain ⟨j, rfl⟩ : ∃ i : Nat, s = i := ⟨s.toNat, by omega⟩
 have e : pt f i j = ((1 + i * f.st.length + j : Nat) : Int) := by unfold pt; simp
 have := row_lt (m := f.li.length) (n := f.st.length) (l := i) (s := j) (by omega) (by omega)
 have hN : ptsN f = 1 + f.li.length * f.st.length := rfl
 rw [e]
 omega
theorem along_mem {f : Fd} {c : Ca} {x : Int} : ∀ {n : Nat} {s : Int}, x ∈ gpts (gapAlong f c n s) ↔ ∃ q : Int, s ≤ q ∧ q < s + n ∧ (x = pt f c.o q ∨ x = pt f c.l q)
  | 0, s => by simp [gapAlong, gpts]; omega
  | n + 1, s => by
    have e : gpts (gapAlong f c (n + 1) s) = pt f c.o s :: pt f c.l s :: gpts (gapAlong f c n (s + 1)) := rfl
    rw [e, List.mem_cons, List.mem_cons, along_mem (n := n) (s := s + 1)]
    constructor
    · rintro (h | h | ⟨q, h1, h2, h3⟩)
      · exact ⟨s, by omega, by omega, .inl h⟩
      · exact ⟨s, by omega, by omega, .inr h⟩
      · exact ⟨q, by omega, by omega, h3⟩
    · rintro ⟨q, h1, h2, h3⟩
      by_cases e : q = s
      · subst e
        rcases h3 with h3 | h3
        · exact .inl h3
        · exact .inr (.inl h3)
      · exact .inr (.inr ⟨q, by omega, by omega, h3⟩)
theorem along_nodup {f : Fd} {c : Ca} (hlo : c.l < c.o) : ∀ (n : Nat) (s : Int), 0 ≤ s → s + n ≤ f.st.length → (gpts (gapAlong f c n s)).Nodup
  | 0, s, _, _ => List.nodup_nil
  | n + 1, s, h0, h1 => by
    have e : gpts (gapAlong f c (n + 1) s) = pt f c.o s :: pt f c.l s :: gpts (gapAlong f c n (s + 1)) := rfl
    rw [e, List.nodup_cons, List.nodup_cons]
    refine ⟨fun hm => ?_, fun hm => ?_, along_nodup hlo n (s + 1) (by omega) (by omega)⟩
    · rcases List.mem_cons.1 hm with h | h
      · have := (pt_inj h0 (by omega) h0 (by omega) h).1
        omega
      · obtain ⟨q, h2, h3, h4 | h4⟩ := along_mem.1 h
        · have := (pt_inj h0 (by omega) (by omega) (by omega) h4).2
          omega
        · have := (pt_inj h0 (by omega) (by omega) (by omega) h4).1
          omega
    · obtain ⟨q, h2, h3, h4 | h4⟩ := along_mem.1 hm
      · have := (pt_inj h0 (by omega) (by omega) (by omega) h4).1
        omega
      · have := (pt_inj h0 (by omega) (by omega) (by omega) h4).2
        omega
theorem gaps_pts {f : Fd} {c : Ca} (h : callG f c = 0) : (gpts (gapsF f c)).Nodup ∧ ∀ x ∈ gpts (gapsF f c), 0 ≤ x ∧ x < ptsN f := by
 obtain ⟨ht, ho, hb, _⟩ := callG_zero h
 simp only [there, Bool.and_eq_true] at ht
 obtain ⟨⟨⟨⟨⟨t1, t2⟩, t3⟩, t4⟩, _⟩, _⟩ := ht
 have i3 := t3
 have i4 := t4
 simp only [isIx, decide_eq_true_eq] at i3 i4
 have hN : 0 < ptsN f := by unfold ptsN; omega
 unfold gapsF
 rcases kind_of ho with k | k | k | k | k
 ·rw [if_pos k]
  have r := pt_range t1 t3
  refine ⟨?_, fun x hx => ?_⟩
  ·show [pt f c.l c.a, 0].Nodup
   simp
   omega
  ·have hx' : x ∈ [pt f c.l c.a, 0] := hx
   simp only [List.mem_cons, List.not_mem_nil, or_false] at hx'
   omega
 ·have ho' : c.l < c.o := by
   unfold ordered at ho
   rw [if_neg (by omega), if_pos k] at ho
   simp only [Bool.and_eq_true, decide_eq_true_eq] at ho
   exact ho.1
  rw [if_neg (by omega), if_pos k]
  have r := pt_range t1 t3
  have r2 := pt_range t2 t3
  refine ⟨?_, fun x hx => ?_⟩
  ·show [pt f c.o c.a, pt f c.l c.a].Nodup
   simp only [List.nodup_cons, List.mem_singleton, List.not_mem_nil, not_false_eq_true, List.nodup_nil, and_true]
   intro e
   have := (pt_inj i3.1 i3.2 i3.1 i3.2 e).1
   omega
  ·have hx' : x ∈ [pt f c.o c.a, pt f c.l c.a] := hx
   simp only [List.mem_cons, List.not_mem_nil, or_false] at hx'
   omega
 ·have ho' : c.a ≠ c.b := by
   unfold ordered at ho
   rw [if_neg (by omega), if_neg (by omega), if_pos (.inl k)] at ho
   simpa using ho
  rw [if_neg (by omega), if_neg (by omega), if_pos k]
  have r := pt_range t1 t3
  have r2 := pt_range t1 t4
  refine ⟨?_, fun x hx => ?_⟩
  ·show [pt f c.l c.b, pt f c.l c.a].Nodup
   simp only [List.nodup_cons, List.mem_singleton, List.not_mem_nil, not_false_eq_true, List.nodup_nil, and_true]
   intro e
   have := (pt_inj i4.1 i4.2 i3.1 i3.2 e).2
   omega
  ·have hx' : x ∈ [pt f c.l c.b, pt f c.l c.a] := hx
   simp only [List.mem_cons, List.not_mem_nil, or_false] at hx'
   omega
 ·have ho' : c.l < c.o ∧ c.a < c.b := by
   unfold ordered at ho
   rw [if_neg (by omega), if_neg (by omega), if_neg (by omega), if_pos k] at ho
   simpa using ho
  rw [if_neg (by omega), if_neg (by omega), if_neg (by omega), if_neg (by omega)]
  refine ⟨along_nodup ho'.1 _ _ (by omega) (by omega), fun x hx => ?_⟩
  obtain ⟨q, q1, q2, q3⟩ := along_mem.1 hx
  have hq : isIx q f.st.length = true := by
   simp only [isIx, decide_eq_true_eq]
   omega
  have r := pt_range t1 hq
  have r2 := pt_range t2 hq
  rcases q3 with rfl | rfl <;> omega
 ·have ho' : c.a ≠ c.b := by
   unfold ordered at ho
   rw [if_neg (by omega), if_neg (by omega), if_pos (.inr k)] at ho
   simpa using ho
  rw [if_neg (by omega), if_neg (by omega), if_neg (by omega), if_pos k]
  have r := pt_range t1 t3
  have r2 := pt_range t1 t4
  refine ⟨?_, fun x hx => ?_⟩
  ·show [pt f c.l c.b, pt f c.l c.a].Nodup
   simp only [List.nodup_cons, List.mem_singleton, List.not_mem_nil, not_false_eq_true, List.nodup_nil, and_true]
   intro e
   have := (pt_inj i4.1 i4.2 i3.1 i3.2 e).2
   omega
  ·have hx' : x ∈ [pt f c.l c.b, pt f c.l c.a] := hx
   simp only [List.mem_cons, List.not_mem_nil, or_false] at hx'
   omega
def ends (l : List Bd) : List Int := (l.map (·.t)).filter fun x => decide (x ≠ 0)
theorem conc_eq {f : Fd} {c : Ca} (h : callG f c = 0) : ((ends (bnds f c 0)).mergeSort fun x y => decide (x ≤ y)) = concA (bnds f c 0) (ptsN f - 1) 1 := by
 obtain ⟨hn, hr⟩ := gaps_pts h
 have hN : 0 < ptsN f := by unfold ptsN; omega
 have e : ends (bnds f c 0) = (gpts (gapsF f c)).filter fun x => decide (x ≠ 0) := by
  unfold ends bnds
  rw [to_pts]
 have hp := List.mergeSort_perm (ends (bnds f c 0)) (fun x y => decide (x ≤ y))
 refine incr_ext _ _ (sort_incr (by rw [e]; exact hn.filter _)) (concA_incr _ _ _) fun x => ?_
 rw [hp.mem_iff, e, List.mem_filter, concA_mem]
 unfold bnds
 rw [ft_pts]
 simp only [decide_eq_true_eq]
 constructor
 ·rintro ⟨h1, h2⟩
  have := hr x h1
  exact ⟨x.toNat, by omega, by omega, by omega, h1⟩
 ·rintro ⟨q, rfl, h1, h2, h3⟩
  exact ⟨h3, by omega⟩
end Dd
end

section
open Go.RowKit
theorem fval_def (v : Fv) (f : Dd.Fd) : fval v f = .agg #[.slice v.a1 f.st.length v.c1, .slice v.a2 f.li.length v.c2, .slice v.a3 f.pa.length v.c3, .slice v.a4 f.va.length v.c4] := rfl
theorem mul_small {l : Int} {n : Nat} (h0 : 0 ≤ l) (h1 : l ≤ 1000000) (hn : n ≤ 1000000) : 0 ≤ l * (n : Int) ∧ l * (n : Int) ≤ 1000000000000 := by
 refine ⟨Int.mul_nonneg h0 (by omega), ?_⟩
 have := Int.mul_le_mul h1 (show (n : Int) ≤ 1000000 by omega) (by omega) (by omega)
 omega
theorem pointOf_any (v : Fv) (f : Dd.Fd) (l s : Int) (hn : f.st.length ≤ 1000000) (h0 : 0 ≤ l) (h1 : l ≤ 1000000) (h2 : 0 ≤ s) (h3 : s ≤ 1000000) (w : World) :
  Calls Tryz.prog 45 #[fval v f, .int .i64 l, .int .i64 s] w fun e w' => e = .returned (.int .i64 (Dd.pt f l s)) ∧ Below w.heap.size w w' := by
 have hd : Dd.pt f l s = 1 + l * f.st.length + s := rfl
 obtain ⟨m0, m1⟩ := mul_small h0 h1 hn
 rw [hd, fval_def]
 obtain ⟨P, hP⟩ : ∃ P, l * (f.st.length : Int) = P := ⟨_, rfl⟩
 rw [hP] at m0 m1 ⊢
 clear hd
 go_enter Tryz.func45, Tryz.ntmps45
 go_wp2_with fail
 go_ret
 exact ⟨rfl, (Below.refl _ _).alloc (Nat.le_refl _) _⟩
theorem pts_cast (f : Dd.Fd) : (Dd.ptsN f : Int) = 1 + (f.li.length : Int) * f.st.length := by
 unfold Dd.ptsN
 simp
theorem pointsOf_any (v : Fv) (f : Dd.Fd) (hn : f.st.length ≤ 1000000) (hm : f.li.length ≤ 1000000) (w : World) :
  Calls Tryz.prog 49 #[fval v f] w fun e w' => e = .returned (.int .i64 (Dd.ptsN f)) ∧ Below w.heap.size w w' := by
 obtain ⟨m0, m1⟩ := mul_small (l := f.li.length) (by omega) (by omega) hn
 rw [pts_cast, fval_def]
 obtain ⟨P, hP⟩ : ∃ P, (f.li.length : Int) * (f.st.length : Int) = P := ⟨_, rfl⟩
 rw [hP] at m0 m1 ⊢
 go_enter Tryz.func49, Tryz.ntmps49
 go_wp2_with fail
 go_ret
 exact ⟨rfl, (Below.refl _ _).alloc (Nat.le_refl _) _⟩
theorem Points_any (v : Fv) (f : Dd.Fd) (w : World) (hF : FRd w w.heap.size v f) : Calls Tryz.prog 39 #[fval v f] w fun e w' => e = .returned (.int .i64 (Dd.ptsF f)) ∧ Below w.heap.size w w' := by
 have hd : Dd.ptsF f = if Dd.fieldE f = 0 then (Dd.ptsN f : Int) else 0 := rfl
 have hl1 := hF.l1
 have hl2 := hF.l2
 have S0 := jQ (Fs.new hF)
 have B0 := jQ (fun W (h : Fs w w.heap.size v f W) => checkField_any v f W h.rd)
 have B1 := jQ (fun W => pointsOf_any v f hl1 hl2 W)
 rw [hd]
 obtain ⟨N, hN⟩ : ∃ n : Int, (Dd.ptsN f : Int) = n := ⟨_, rfl⟩
 obtain ⟨ef, hef⟩ : ∃ e, Dd.fieldE f = e := ⟨_, rfl⟩
 rw [hef] at B0 ⊢
 rw [hN] at B1 ⊢
 simp only [fval_def] at B0 B1 ⊢
 obtain ⟨c0, c1, c2, c3, lg⟩ := S0.o.cells
 clear hd hF hef hN
 by_cases he : ef = 0
 ·subst he
  rw [if_pos rfl]
  go_enter Tryz.func39, Tryz.ntmps39
  go_wp2_with fail
  refine (B0.o _ S0.o).mono ?_
  rintro e w1 ⟨rfl, hb⟩
  have S1 := jQ (S0.o.next hb)
  clear hb c0 c1 c2 c3 lg
  obtain ⟨c0, c1, c2, c3, lg⟩ := S1.o.cells
  go_wp2_with fail
  refine (B1.o _).mono ?_
  rintro e w2 ⟨rfl, hb⟩
  have S2 := jQ (S1.o.next hb)
  clear hb c0 c1 c2 c3 lg
  go_wp2_with fail
  go_ret
  exact ⟨rfl, S2.o.b⟩
 ·rw [if_neg he]
  have hne : (ef != 0) = true := by simp [he]
  go_enter Tryz.func39, Tryz.ntmps39
  go_wp2_with fail
  refine (B0.o _ S0.o).mono ?_
  rintro e w1 ⟨rfl, hb⟩
  have S1 := jQ (S0.o.next hb)
  clear hb c0 c1 c2 c3 lg
  go_wp2_with fail
  go_ret
  exact ⟨rfl, S1.o.b⟩
end

section
namespace Dd
theorem flat2_len {α β : Type} {g : α → List β} (hg : ∀ a, (g a).length = 2) (l : List α) : (l.flatMap g).length = 2 * l.length := by
 induction l with
 | nil => rfl
 | cons a t ih => rw [List.flatMap_cons, List.length_append, hg, ih, List.length_cons]; omega
theorem flat2_at {α β : Type} {g : α → List β} (hg : ∀ a, (g a).length = 2) (l : List α) {k j : Nat} (hk : k < l.length) (hj : j < 2) : (l.flatMap g)[2 * k + j]? = (g l[k])[j]? := by
  induction l generalizing k with
  | nil => simp at hk
  | cons a t ih =>
    rw [List.flatMap_cons]
    cases k with
    | zero =>
      rw [List.getElem?_append_left (by rw [hg]; omega)]
      simp
    | succ k =>
      rw [List.getElem?_append_right (by rw [hg]; omega), hg, show 2 * (k + 1) + j - 2 = 2 * k + j by omega]
      simpa using ih (k := k) (by simpa using hk)
theorem bnds_len (f : Fd) (x : Ca) (r : Int) : (bnds f x r).length = 2 * (gapsF f x).length := flat2_len (fun _ => rfl) _
theorem callE_zero {f : Fd} {x : Ca} (h : callE f x = 0) : fieldE f = 0 ∧ callG f x = 0 := by
 unfold callE at h
 by_cases h0 : fieldE f = 0
 ·rw [if_neg (by simp [h0])] at h
  exact ⟨h0, h⟩
 ·rw [if_pos h0] at h
  exact absurd h h0
abbrev Ib (f : Fd) (x : Ca) (r : Int) : Type := { b : Bd // b ∈ bnds f x r }
theorem bnds_at (f : Fd) (x : Ca) (r : Int) {k : Nat} (hk : k < (gapsF f x).length) :
  ∃ (h1 : (⟨(gapsF f x)[k].1, (gapsF f x)[k].2.1, (gapsF f x)[k].2.2.2, r⟩ : Bd) ∈ bnds f x r) (h2 : (⟨(gapsF f x)[k].2.1, (gapsF f x)[k].1, -(gapsF f x)[k].2.2.1, r⟩ : Bd) ∈ bnds f x r),
   (bnds f x r).attach.take (2 * k) ++ [⟨_, h1⟩] = (bnds f x r).attach.take (2 * k + 1) ∧ (bnds f x r).attach.take (2 * k + 1) ++ [⟨_, h2⟩] = (bnds f x r).attach.take (2 * (k + 1)) := by
 have e1 : (bnds f x r)[2 * k + 0]? = some ⟨(gapsF f x)[k].1, (gapsF f x)[k].2.1, (gapsF f x)[k].2.2.2, r⟩ := flat2_at (g := pairB r) (fun _ => rfl) _ hk (by decide)
 have e2 : (bnds f x r)[2 * k + 1]? = some ⟨(gapsF f x)[k].2.1, (gapsF f x)[k].1, -(gapsF f x)[k].2.2.1, r⟩ := flat2_at (g := pairB r) (fun _ => rfl) _ hk (by decide)
 rw [Nat.add_zero] at e1
 obtain ⟨g1, e1⟩ := List.getElem?_eq_some_iff.1 e1
 obtain ⟨g2, e2⟩ := List.getElem?_eq_some_iff.1 e2
 have m1 : (⟨(gapsF f x)[k].1, (gapsF f x)[k].2.1, (gapsF f x)[k].2.2.2, r⟩ : Bd) ∈ bnds f x r := by rw [← e1]; exact List.getElem_mem g1
 have m2 : (⟨(gapsF f x)[k].2.1, (gapsF f x)[k].1, -(gapsF f x)[k].2.2.1, r⟩ : Bd) ∈ bnds f x r := by rw [← e2]; exact List.getElem_mem g2
 refine ⟨m1, m2, ?_, ?_⟩
 ·have : (bnds f x r).attach[2 * k]? = some ⟨_, m1⟩ := by simp [g1, e1]
  rw [List.take_add_one, this]
  rfl
 ·have : (bnds f x r).attach[2 * k + 1]? = some ⟨_, m2⟩ := by simp [g2, e2]
  rw [show 2 * (k + 1) = (2 * k + 1) + 1 by omega, List.take_add_one (i := 2 * k + 1), this]
  rfl
theorem bnds_of (f : Fd) (x : Ca) (r : Int) {k : Nat} (hk : k < (gapsF f x).length) {p q lo hi : Int} (hg : (gapsF f x)[k] = (p, q, lo, hi)) :
  ∃ (h1 : (⟨p, q, hi, r⟩ : Bd) ∈ bnds f x r) (h2 : (⟨q, p, -lo, r⟩ : Bd) ∈ bnds f x r),
   (bnds f x r).attach.take (2 * k) ++ [⟨_, h1⟩] = (bnds f x r).attach.take (2 * k + 1) ∧ (bnds f x r).attach.take (2 * k + 1) ++ [⟨_, h2⟩] = (bnds f x r).attach.take (2 * (k + 1)) := by
 have h := bnds_at f x r hk
 rw [hg] at h
 exact h
theorem along_zero {f : Fd} {c : Ca} {g : Int × Int × Int × Int} : ∀ (n : Nat) (s : Int), g ∈ gapAlong f c n s → g.2.2.1 = 0
  | 0, s, h => by cases h
  | n + 1, s, h => by
    rcases List.mem_cons.1 h with rfl | h
    · rfl
    · exact along_zero n (s + 1) h
theorem gaps_low {f : Fd} {x : Ca} (h : callE f x = 0) {g : Int × Int × Int × Int} (hg : g ∈ gapsF f x) : -1000000 ≤ g.2.2.1 ∧ g.2.2.1 ≤ 1000000 := by
 have hG : callG f x = 0 := by
  unfold callE at h
  by_cases h0 : fieldE f = 0
  ·rwa [if_neg (by simp [h0])] at h
  ·rw [if_pos h0] at h; exact absurd h h0
 obtain ⟨ht, ho, hb, h3⟩ := callG_zero hG
 simp only [there, Bool.and_eq_true, decide_eq_true_eq] at ht
 obtain ⟨⟨_, t5⟩, t6⟩ := ht
 unfold gapsF at hg
 split at hg
 ·rw [List.mem_singleton] at hg; subst hg; dsimp only; omega
 ·split at hg
  ·rw [List.mem_singleton] at hg; subst hg; dsimp only; omega
  ·split at hg
   ·rename_i k3
    rw [List.mem_singleton] at hg
    subst hg
    dsimp only
    obtain ⟨e1, e2⟩ := h3 k3
    have he : Cs.eastE f.va [x.c] (run f x) = 0 := by
     rcases Int.decEq (Cs.eastE f.va [x.c] (run f x)) 0 with h | h
     ·rw [Cs.comF_err1 h] at e1; exact absurd e1 h
     ·exact h
    rw [Cs.comF_zero he]
    have hr := Cs.comG_range f.va (dx := run f x) [x.c] (-100000) 100000 (by decide) (by decide) (by decide)
    dsimp only
    omega
   ·split at hg
    ·rw [List.mem_singleton] at hg; subst hg; dsimp only; omega
    ·have := along_zero _ _ hg
     omega
theorem alongN (f : Fd) (c : Ca) : ∀ (n : Nat) (s : Int), (gapAlong f c n s).length = n
 | 0, _ => rfl
 | n + 1, s => by rw [gapAlong, List.length_cons, alongN f c n (s + 1)]
theorem gaps_len {f : Fd} {x : Ca} (h : callE f x = 0) : (gapsF f x).length ≤ f.st.length + 1 := by
 have hG : callG f x = 0 := by
  unfold callE at h
  by_cases h0 : fieldE f = 0
  ·rwa [if_neg (by simp [h0])] at h
  ·rw [if_pos h0] at h; exact absurd h h0
 have ht := (callG_zero hG).1
 simp only [there, isIx, Bool.and_eq_true, decide_eq_true_eq] at ht
 unfold gapsF
 split
 ·simp
 ·split
  ·simp
  ·split
   ·simp
   ·split
    ·simp
    ·rw [alongN]
     omega
end Dd
end

section
open Go.RowKit
theorem qWithin_any (n a b : Int) (w : World) : Calls Tryz.prog 51 #[.int .i64 n, .int .i64 a, .int .i64 b] w fun e w' => e = .returned (.bool (decide (a ≤ n ∧ n ≤ b))) ∧ w' = w := by
 by_cases h1 : a ≤ n
 ·have d1 : decide (n ≥ a) = true := decide_eq_true h1
  by_cases h2 : n ≤ b
  ·have d2 : decide (n ≤ b) = true := decide_eq_true h2
   have HR := jQ (show decide (a ≤ n ∧ n ≤ b) = true from decide_eq_true ⟨h1, h2⟩)
   rw [HR.o]
   clear h1 h2
   go_enter Tryz.func51, Tryz.ntmps51
   go_wp2_with fail
   go_ret
   exact ⟨rfl, rfl⟩
  ·have d2 : decide (n ≤ b) = false := decide_eq_false h2
   have HR := jQ (show decide (a ≤ n ∧ n ≤ b) = false from decide_eq_false (by omega))
   rw [HR.o]
   clear h1 h2
   go_enter Tryz.func51, Tryz.ntmps51
   go_wp2_with fail
   go_ret
   exact ⟨rfl, rfl⟩
 ·have d1 : decide (n ≥ a) = false := decide_eq_false h1
  have HR := jQ (show decide (a ≤ n ∧ n ≤ b) = false from decide_eq_false (by omega))
  rw [HR.o]
  clear h1
  go_enter Tryz.func51, Tryz.ntmps51
  go_wp2_with fail
  go_ret
  exact ⟨rfl, rfl⟩
theorem qPlace_any (A : Option Addr) (c : Nat) (l : List Cs.Bs) (s : Cs.Bs) (w : World) (hR : Rd w w.heap.size 1 A l.length (wcells l)) (hl : l.length ≤ 1000000) :
  Calls Tryz.prog 88 #[.slice A l.length c, .string ⟨s.toArray⟩] w fun e w' => e = .returned (.int .i64 (Dd.idxP (fun x => decide (x = s)) l 0)) ∧ Below w.heap.size w w' := by
 have HR := jQ hR
 obtain ⟨R, hRR⟩ : ∃ R, Dd.idxP (fun x => decide (x = s)) l 0 = R := ⟨_, rfl⟩
 rw [hRR]
 have HRR := jQ hRR
 clear hR hRR
 go_enter Tryz.func88, Tryz.ntmps88
 go_wp2_with fail
 go_loopw [5] (fun I wr => ∃ k : Nat, k ≤ l.length ∧ I = .int .i64 k ∧ (∀ j (h : j < l.length), j < k → decide (l[j] = s) = false) ∧ Below w.heap.size w wr) (fun I _ => l.length - (intOf I).toNat)
 case atStart => exact ⟨0, Nat.zero_le _, rfl, (fun j h hj => absurd hj (by omega)), Below.refl _ _⟩
 case round =>
  obtain ⟨k, hk, rfl, ha, hB⟩ := hrel
  have HA := jQ ha
  have HB := jQ hB
  clear ha hB
  by_cases hlt : k < l.length
  ·obtain ⟨b, off, rfl, hb, e0⟩ := (HR.o.below HB.o (Nat.le_refl _)).text hlt
   have hb2 : b < wr.heap.size := Nat.lt_of_lt_of_le hb HB.o.size
   obtain ⟨x, hx⟩ : ∃ x, l[k] = x := ⟨_, rfl⟩
   rw [hx] at e0
   have HX := jQ hx
   by_cases hxs : x = s
   ·have HRK := jQ (show R = k by rw [← HRR.o]; exact Dd.idxP_at hlt (by rw [HX.o]; exact decide_eq_true hxs) (fun j hj => HA.o j (by omega) hj))
    subst hxs
    clear hx
    go_wp2_with fail
    go_ret
    exact ⟨ret_int HRK.o.symm, HB.o⟩
   ·have HXS := jQ hxs
    clear hx
    have hbe : (x == s) = false := by simpa using hxs
    clear hxs
    go_wp2_with fail
    go_roundw
    case rel =>
     refine ⟨k + 1, by omega, by go_num, fun j h hj => ?_, HB.o⟩
     by_cases e : j = k
     ·subst e
      rw [HX.o]
      exact decide_eq_false HXS.o
     ·exact HA.o j h (by omega)
    case measure => simp [intOf]; omega
  ·have HRK := jQ (show R = -1 by rw [← HRR.o]; exact Dd.idxP_no (fun j h => HA.o j h (by omega)))
   obtain rfl : k = l.length := by omega
   go_wp2_with fail
   go_ret
   exact ⟨ret_int HRK.o.symm, HB.o⟩
def Dd.comQ (p q : Dd.Pa) : Int := max 0 (min p.east q.east - max p.west q.west + 1)
theorem Dd.comQ_facing (p q : Dd.Pa) : decide (1 < Dd.comQ p q) = Dd.facing p q := by
 unfold Dd.comQ Dd.facing
 rw [Bool.eq_iff_iff]
 simp only [decide_eq_true_eq]
 omega
def Dd.Small (p : Dd.Pa) : Prop := -1000000 ≤ p.west ∧ p.west ≤ 1000000 ∧ -1000000 ≤ p.east ∧ p.east ≤ 1000000
theorem qCommon_any (p q : Dd.Pa) (hp : Dd.Small p) (hq : Dd.Small q) (w : World) : Calls Tryz.prog 52 #[.agg #[.string ⟨p.name.toArray⟩, .int .i64 p.south, .int .i64 p.west, .int .i64 p.east], .agg #[.string ⟨q.name.toArray⟩, .int .i64 q.south, .int .i64 q.west, .int .i64 q.east]] w
  fun e w' => e = .returned (.int .i64 (Dd.comQ p q)) ∧ Below w.heap.size w w' := by
 obtain ⟨p1, p2, p3, p4⟩ := hp
 obtain ⟨q1, q2, q3, q4⟩ := hq
 have hd : Dd.comQ p q = max 0 (min p.east q.east - max p.west q.west + 1) := rfl
 obtain ⟨n1, s1, a1, b1⟩ := p
 obtain ⟨n2, s2, a2, b2⟩ := q
 dsimp only at p1 p2 p3 p4 q1 q2 q3 q4 hd ⊢
 have hw1 : IntKind.i64.wrap (min b1 b2 - max a1 a2) = min b1 b2 - max a1 a2 := IntWalk.i64_in _ (by omega)
 have hw2 : IntKind.i64.wrap (min b1 b2 - max a1 a2 + 1) = min b1 b2 - max a1 a2 + 1 := IntWalk.i64_in _ (by omega)
 have HD := jQ hd
 obtain ⟨R, hR⟩ : ∃ R, Dd.comQ ⟨n1, s1, a1, b1⟩ ⟨n2, s2, a2, b2⟩ = R := ⟨_, rfl⟩
 rw [hR] at HD ⊢
 clear hd hR p1 p2 p3 p4 q1 q2 q3 q4
 go_enter Tryz.func52, Tryz.ntmps52
 go_wp2_with fail
 go_ret
 exact ⟨ret_int HD.o.symm, ((Below.refl _ _).alloc (Nat.le_refl _) _).alloc (by simp) _⟩
theorem qPoint_any (v : Fv) (f : Dd.Fd) (l s : Int) (hn : f.st.length ≤ 1000000) (h0 : 0 ≤ l) (h1 : l ≤ 1000000) (h2 : 0 ≤ s) (h3 : s ≤ 1000000) (w : World) :
  Calls Tryz.prog 47 #[fval v f, .int .i64 l, .int .i64 s] w fun e w' => e = .returned (.int .i64 (Dd.pt f l s)) ∧ Below w.heap.size w w' := by
 have hd : Dd.pt f l s = 1 + l * f.st.length + s := rfl
 obtain ⟨m0, m1⟩ := mul_small h0 h1 hn
 rw [hd, fval_def]
 obtain ⟨P, hP⟩ : ∃ P, l * (f.st.length : Int) = P := ⟨_, rfl⟩
 rw [hP] at m0 m1 ⊢
 clear hd
 go_enter Tryz.func47, Tryz.ntmps47
 go_wp2_with fail
 go_ret
 exact ⟨rfl, (Below.refl _ _).alloc (Nat.le_refl _) _⟩
theorem qCorner_any (v : Fv) (f : Dd.Fd) (l s : Int) (hn : f.st.length ≤ 1000000) (hm : f.li.length ≤ 1000000) (w : World) :
  Calls Tryz.prog 46 #[fval v f, .int .i64 l, .int .i64 s] w fun e w' => e = .returned (.bool (Dd.isIx l f.li.length && Dd.isIx s f.st.length)) ∧ Below w.heap.size w w' := by
 have h1 : decide (0 ≤ l ∧ l ≤ (f.li.length : Int) - 1) = Dd.isIx l f.li.length := by unfold Dd.isIx; rw [Bool.eq_iff_iff]; simp only [decide_eq_true_eq]; omega
 have h2 : decide (0 ≤ s ∧ s ≤ (f.st.length : Int) - 1) = Dd.isIx s f.st.length := by unfold Dd.isIx; rw [Bool.eq_iff_iff]; simp only [decide_eq_true_eq]; omega
 have H1 := jQ (fun W => h1 ▸ qWithin_any l 0 ((f.li.length : Int) - 1) W)
 have H2 := jQ (fun W => h2 ▸ qWithin_any s 0 ((f.st.length : Int) - 1) W)
 rw [fval_def]
 obtain ⟨p, hp⟩ : ∃ p, Dd.isIx l f.li.length = p := ⟨_, rfl⟩
 obtain ⟨q, hq⟩ : ∃ p, Dd.isIx s f.st.length = p := ⟨_, rfl⟩
 rw [hp] at H1 ⊢
 rw [hq] at H2 ⊢
 have HB := jQ ((Below.refl w.heap.size w).alloc (Nat.le_refl _) (.cells #[.slice v.a1 f.st.length v.c1, .slice v.a2 f.li.length v.c2, .slice v.a3 f.pa.length v.c3, .slice v.a4 f.va.length v.c4] 27))
 clear h1 h2 hp hq
 rcases p with _ | _
 ·go_enter Tryz.func46, Tryz.ntmps46
  go_wp2_with fail
  refine (H1.o _).mono ?_
  rintro e w' ⟨rfl, rfl⟩
  go_wp2_with fail
  go_ret
  exact ⟨rfl, HB.o⟩
 ·go_enter Tryz.func46, Tryz.ntmps46
  go_wp2_with fail
  refine (H1.o _).mono ?_
  rintro e w' ⟨rfl, rfl⟩
  go_wp2_with fail
  refine (H2.o _).mono ?_
  rintro e w' ⟨rfl, rfl⟩
  go_wp2_with fail
  go_ret
  exact ⟨by rw [Bool.true_and]; rfl, HB.o⟩
end

section
open Go.RowKit
theorem qbyte {l : Cs.Bs} {k : Nat} (hk : k < l.length) (h : k < (⟨l.toArray⟩ : ByteArray).size) : (⟨l.toArray⟩ : ByteArray)[k] = l[k] := rfl
theorem qName_any (s : Cs.Bs) (hs : s.length ≤ 1000000) (w : World) : Calls Tryz.prog 87 #[.string ⟨s.toArray⟩] w fun e w' => e = .returned (.bool (Dd.nameF s)) ∧ Below w.heap.size w w' := by
 have hbs : (⟨s.toArray⟩ : ByteArray).size = s.length := by show s.toArray.size = _; simp
 obtain ⟨R, hR⟩ : ∃ R, Dd.nameF s = R := ⟨_, rfl⟩
 rw [hR]
 have HR := jQ hR
 clear hR
 by_cases h0 : s.length < 1
 ·have d1 : decide ((s.length : Int) < 1) = true := decide_eq_true (by omega)
  have HRF := jQ (show R = false by
   rw [← HR.o]
   obtain rfl : s = [] := by cases s with | nil => rfl | cons a b => simp at h0
   rfl)
  go_enter Tryz.func87, Tryz.ntmps87
  go_wp2_with fail
  go_ret
  exact ⟨ret_bool HRF.o.symm, Below.refl _ _⟩
 have d1 : decide ((s.length : Int) < 1) = false := decide_eq_false (by omega)
 by_cases h1 : 24 < s.length
 ·have d2 : decide ((s.length : Int) > 24) = true := decide_eq_true (by omega)
  have HRF := jQ (show R = false by
   rw [← HR.o]
   unfold Dd.nameF
   rw [decide_eq_false (by omega), Bool.false_and, Bool.false_and])
  go_enter Tryz.func87, Tryz.ntmps87
  go_wp2_with fail
  go_ret
  exact ⟨ret_bool HRF.o.symm, Below.refl _ _⟩
 have d2 : decide ((s.length : Int) > 24) = false := decide_eq_false (by omega)
 have h00 : 0 < s.length := by omega
 have hb0 := fun h => qbyte h00 h
 have hhead : Dd.headF s = Dd.isLet s[0] := by cases s with | nil => simp at h00 | cons a b => rfl
 have hsz0 : 0 < (⟨s.toArray⟩ : ByteArray).size := by omega
 have hc := (s[0]).toNat_lt
 have hlet : Dd.isLet s[0] = decide (97 ≤ (s[0]).toNat ∧ (s[0]).toNat ≤ 122) := rfl
 obtain ⟨c, hcc⟩ : ∃ c, s[0] = c := ⟨_, rfl⟩
 rw [hcc] at hhead hc hlet
 simp only [hcc] at hb0
 obtain ⟨m, hm⟩ : ∃ m, c.toNat = m := ⟨_, rfl⟩
 rw [hm] at hc hlet
 have HHEAD := jQ (hhead.trans hlet)
 clear hhead hlet hcc
 by_cases h2 : m < 97
 ·have d3 : decide ((m : Int) < 97) = true := decide_eq_true (by omega)
  have HRF := jQ (show R = false by
   rw [← HR.o]
   unfold Dd.nameF
   rw [HHEAD.o, decide_eq_false (p := 97 ≤ m ∧ m ≤ 122) (by omega), Bool.and_false, Bool.false_and])
  go_enter Tryz.func87, Tryz.ntmps87
  go_wp2_with fail
  go_ret
  exact ⟨ret_bool HRF.o.symm, Below.refl _ _⟩
 have d3 : decide ((m : Int) < 97) = false := decide_eq_false (by omega)
 by_cases h3 : 122 < m
 ·have d4 : decide ((m : Int) > 122) = true := decide_eq_true (by omega)
  have HRF := jQ (show R = false by
   rw [← HR.o]
   unfold Dd.nameF
   rw [HHEAD.o, decide_eq_false (p := 97 ≤ m ∧ m ≤ 122) (by omega), Bool.and_false, Bool.false_and])
  go_enter Tryz.func87, Tryz.ntmps87
  go_wp2_with fail
  go_ret
  exact ⟨ret_bool HRF.o.symm, Below.refl _ _⟩
 have d4 : decide ((m : Int) > 122) = false := decide_eq_false (by omega)
 have HALL := jQ (show R = s.all Dd.nameC by
  rw [← HR.o]
  unfold Dd.nameF
  rw [HHEAD.o, decide_eq_true (p := 97 ≤ m ∧ m ≤ 122) (by omega), decide_eq_true (by omega), Bool.true_and, Bool.true_and])
 clear HR h0 h1 h2 h3 hc HHEAD
 go_enter Tryz.func87, Tryz.ntmps87
 go_wp2_with fail
 clear hb0 d1 d2 d3 d4 hm hsz0
 go_loopw [3] (fun I wr => ∃ k : Nat, k ≤ s.length ∧ I = .int .i64 k ∧ wr = w ∧ ∀ j (h : j < s.length), j < k → Dd.nameC s[j] = true) (fun I _ => s.length - (intOf I).toNat)
 case atStart => exact ⟨0, Nat.zero_le _, rfl, rfl, fun j h hj => absurd hj (by omega)⟩
 case round =>
  obtain ⟨k, hk, rfl, rfl, ha⟩ := hrel
  have HA := jQ ha
  clear ha
  by_cases hlt : k < s.length
  ·have hbk := fun h => qbyte hlt h
   have hszk : k < (⟨s.toArray⟩ : ByteArray).size := by omega
   have HNO := jQ (show Dd.nameC s[k] = false → R = false by
    intro h
    rw [HALL.o, ← Bool.not_eq_true, List.all_eq_true]
    intro h2
    have := h2 _ (List.getElem_mem hlt)
    rw [h] at this
    cases this)
   have hnc : Dd.nameC s[k] = (decide (97 ≤ (s[k]).toNat ∧ (s[k]).toNat ≤ 122) || decide (48 ≤ (s[k]).toNat ∧ (s[k]).toNat ≤ 57) || decide ((s[k]).toNat = 45)) := rfl
   have hbr := (s[k]).toNat_lt
   obtain ⟨x, hx⟩ : ∃ x, s[k] = x := ⟨_, rfl⟩
   rw [hx] at hnc hbr HNO
   simp only [hx] at hbk
   have HX := jQ hx
   obtain ⟨n, hn⟩ : ∃ n, x.toNat = n := ⟨_, rfl⟩
   rw [hn] at hnc hbr
   have HNC := jQ hnc
   clear hnc hx
   by_cases q1 : n < 97
   ·by_cases q2 : n < 48
    ·by_cases q : n = 45
     ·have d1 : decide ((n : Int) < 97) = true := decide_eq_true (by omega)
      have d3 : decide ((n : Int) < 48) = true := decide_eq_true (by omega)
      have d5 : ((n : Int) != 45) = false := by rw [q]; rfl
      have HV := jQ (show Dd.nameC x = true by rw [HNC.o]; simp only [Bool.or_eq_true, decide_eq_true_eq]; omega)
      go_wp2_with fail
      go_roundw
      case rel =>
       refine ⟨k + 1, by omega, by go_num, trivial, fun j h hj => ?_⟩
       by_cases e : j = k
       ·subst e
        rw [HX.o]
        exact HV.o
       ·exact HA.o j h (by omega)
      case measure => simp [intOf]; omega
     ·have d1 : decide ((n : Int) < 97) = true := decide_eq_true (by omega)
      have d3 : decide ((n : Int) < 48) = true := decide_eq_true (by omega)
      have d5 : ((n : Int) != 45) = true := by simp only [bne_iff_ne]; omega
      have HV := jQ (HNO.o (by rw [HNC.o, Bool.eq_false_iff]; simp only [ne_eq, Bool.or_eq_true, decide_eq_true_eq]; omega))
      go_wp2_with fail
      go_ret
      exact ⟨ret_bool HV.o.symm, Below.refl _ _⟩
    ·by_cases q3 : 57 < n
     ·have d1 : decide ((n : Int) < 97) = true := decide_eq_true (by omega)
      have d3 : decide ((n : Int) < 48) = false := decide_eq_false (by omega)
      have d4 : decide ((n : Int) > 57) = true := decide_eq_true (by omega)
      have d5 : ((n : Int) != 45) = true := by simp only [bne_iff_ne]; omega
      have HV := jQ (HNO.o (by rw [HNC.o, Bool.eq_false_iff]; simp only [ne_eq, Bool.or_eq_true, decide_eq_true_eq]; omega))
      go_wp2_with fail
      go_ret
      exact ⟨ret_bool HV.o.symm, Below.refl _ _⟩
     ·have d1 : decide ((n : Int) < 97) = true := decide_eq_true (by omega)
      have d3 : decide ((n : Int) < 48) = false := decide_eq_false (by omega)
      have d4 : decide ((n : Int) > 57) = false := decide_eq_false (by omega)
      have HV := jQ (show Dd.nameC x = true by rw [HNC.o]; simp only [Bool.or_eq_true, decide_eq_true_eq]; omega)
      go_wp2_with fail
      go_roundw
      case rel =>
       refine ⟨k + 1, by omega, by go_num, trivial, fun j h hj => ?_⟩
       by_cases e : j = k
       ·subst e
        rw [HX.o]
        exact HV.o
       ·exact HA.o j h (by omega)
      case measure => simp [intOf]; omega
   ·by_cases q4 : 122 < n
    ·have d1 : decide ((n : Int) < 97) = false := decide_eq_false (by omega)
     have d2 : decide ((n : Int) > 122) = true := decide_eq_true (by omega)
     have d3 : decide ((n : Int) < 48) = false := decide_eq_false (by omega)
     have d4 : decide ((n : Int) > 57) = true := decide_eq_true (by omega)
     have d5 : ((n : Int) != 45) = true := by simp only [bne_iff_ne]; omega
     have HV := jQ (HNO.o (by rw [HNC.o, Bool.eq_false_iff]; simp only [ne_eq, Bool.or_eq_true, decide_eq_true_eq]; omega))
     go_wp2_with fail
     go_ret
     exact ⟨ret_bool HV.o.symm, Below.refl _ _⟩
    ·have d1 : decide ((n : Int) < 97) = false := decide_eq_false (by omega)
     have d2 : decide ((n : Int) > 122) = false := decide_eq_false (by omega)
     have HV := jQ (show Dd.nameC x = true by rw [HNC.o]; simp only [Bool.or_eq_true, decide_eq_true_eq]; omega)
     go_wp2_with fail
     go_roundw
     case rel =>
      refine ⟨k + 1, by omega, by go_num, trivial, fun j h hj => ?_⟩
      by_cases e : j = k
      ·subst e
       rw [HX.o]
       exact HV.o
      ·exact HA.o j h (by omega)
     case measure => simp [intOf]; omega
  ·have HRT := jQ (show R = true by
    rw [HALL.o, List.all_eq_true]
    intro x hx
    obtain ⟨j, hj, rfl⟩ := List.getElem_of_mem hx
    exact HA.o j hj (by omega))
   obtain rfl : k = s.length := by omega
   go_wp2_with fail
   go_ret
   exact ⟨ret_bool HRT.o.symm, Below.refl _ _⟩
end
end Go.Proofs.YtccikcpcfdjobaaGreatDoor
