/-
  What the claim needs: contracts.
-/
import Derived.Test.YtccikcpcfdjobaaGreatDoorBs11
set_option linter.unusedVariables false
set_option linter.unusedSimpArgs false
set_option maxHeartbeats 8000000
set_option maxRecDepth 100000
namespace Go.Proofs.YtccikcpcfdjobaaGreatDoor
section
namespace Dd
theorem y78 {α : Type} [DecidableEq α] {a : List α} : ∀ {b : List α}, a.Nodup -> (∀ x ∈ a, x ∈ b) -> a.length <= b.length := by
  induction a with
  | nil => intro b _ _; simp
  | cons x r ih =>
    intro b hn hs;have hx := hs x List.mem_cons_self;rw [List.nodup_cons] at hn;have := ih (b := b.erase x) hn.2 (fun y hy => (List.mem_erase_of_ne (fun e => hn.1 (by rw [<- e]; exact hy))).2 (hs y (List.mem_cons_of_mem _ hy)));rw [List.length_erase_of_mem hx] at this;have hp : 0 < b.length := List.length_pos_of_mem hx;simp only [List.length_cons];omega
theorem yBb {α : Type} [DecidableEq α] {a b : List α} (ha : a.Nodup) (hb : b.Nodup) (hs : ∀ x ∈ a, x ∈ b) (hl : a.length = b.length) : ∀ x ∈ b, x ∈ a := by
 intro y hy;refine Decidable.byContradiction fun hn => ?_;have := y78 (a := y :: a) (b := b) (List.nodup_cons.2 ⟨hn, ha⟩) (fun x hx => by
  rcases List.mem_cons.1 hx with rfl | hx
  ·exact hy
  exact hs x hx)
 simp only [List.length_cons] at this;omega
theorem yBS {a b : List Bd} (ha : a.Nodup) (hb : b.Nodup) : (decide (a.length = b.length) && sub a b) = (sub a b && sub b a) := by
 unfold sub;rw [Bool.eq_iff_iff];simp only [Bool.and_eq_true, decide_eq_true_eq, List.all_eq_true];constructor
 ·rintro ⟨h1, h2⟩;exact ⟨h2, yBb ha hb h2 h1⟩
 rintro ⟨h1, h2⟩;have := y78 ha h1;have := y78 hb h2;exact ⟨by omega, h1⟩
def gpts (l : List (Int × Int × Int × Int)) : List Int := l.flatMap fun g => [g.2.1, g.1]
theorem yCz (r : Int) (l : List (Int × Int × Int × Int)) : (l.flatMap (pairB r)).map (·.t) = gpts l := by
 induction l with
 | nil => rfl
 | cons g t ih => simp only [List.flatMap_cons, List.map_append, ih, gpts, pairB]; rfl
theorem yBu {r : Int} {l : List (Int × Int × Int × Int)} {x : Int} : (∃ b ∈ l.flatMap (pairB r), b.f = x ∨ b.t = x) ↔ x ∈ gpts l := by
 unfold gpts;simp only [List.mem_flatMap, pairB];constructor
 ·rintro ⟨b, ⟨g, hg, hb⟩, h⟩;refine ⟨g, hg, ?_⟩;simp only [List.mem_cons, List.not_mem_nil, or_false] at hb ⊢;rcases hb with rfl | rfl <;> rcases h with rfl | rfl <;> simp
 rintro ⟨g, hg, h⟩;simp only [List.mem_cons, List.not_mem_nil, or_false] at h;rcases h with rfl | rfl
 ·exact ⟨⟨g.1, g.2.1, g.2.2.2, r⟩, ⟨g, hg, by simp⟩, .inr rfl⟩
 exact ⟨⟨g.1, g.2.1, g.2.2.2, r⟩, ⟨g, hg, by simp⟩, .inl rfl⟩
theorem y2j {f : Fd} {l s l' s' : Int} (h0 : 0 <= s) (h1 : s < f.st.length) (h2 : 0 <= s') (h3 : s' < f.st.length) (h : pt f l s = pt f l' s') : l = l' /\ s = s' := by
 unfold pt at h;obtain ⟨n, hn⟩ : ∃ n : Int, (f.st.length : Int) = n := ⟨_, rfl⟩;rw [hn] at h h1 h3;have key : ∀ a b u v : Int, 0 <= u -> u < n -> 0 <= v -> v < n -> a * n + u = b * n + v -> ¬ a < b := by
  intro a b u v u0 u1 v0 v1 e hab;have := Int.mul_le_mul_of_nonneg_right (show a + 1 <= b by omega) (show 0 <= n by omega);rw [Int.add_mul] at this;omega
 have e1 := key l l' s s' h0 h1 h2 h3 (by omega);have e2 := key l' l s' s h2 h3 h0 h1 (by omega);have : l = l' := by omega
 subst this;exact ⟨rfl, by omega⟩
theorem y0u {f : Fd} {l s : Int} (hl : isIx l f.li.length = true) (hs : isIx s f.st.length = true) : 1 <= pt f l s /\ pt f l s < ptsN f := by
 simp only [isIx, decide_eq_true_eq] at hl hs;obtain ⟨i, rfl⟩ : ∃ i : Nat, l = i := ⟨l.toNat, by omega⟩;obtain ⟨j, rfl⟩ : ∃ i : Nat, s = i := ⟨s.toNat, by omega⟩;have e : pt f i j = ((1 + i * f.st.length + j : Nat) : Int) := by unfold pt; simp
 have := y7y (m := f.li.length) (n := f.st.length) (l := i) (s := j) (by omega) (by omega);have hN : ptsN f = 1 + f.li.length * f.st.length := rfl;rw [e];omega
theorem y28 {f : Fd} {c : Ca} {x : Int} : ∀ {n : Nat} {s : Int}, x ∈ gpts (gapAlong f c n s) ↔ ∃ q : Int, s <= q /\ q < s + n /\ (x = pt f c.o q ∨ x = pt f c.l q)
  | 0, s => by simp [gapAlong, gpts]; omega
  | n + 1, s => by
    have e : gpts (gapAlong f c (n + 1) s) = pt f c.o s :: pt f c.l s :: gpts (gapAlong f c n (s + 1)) := rfl;rw [e, List.mem_cons, List.mem_cons, y28 (n := n) (s := s + 1)];constructor
    · rintro (h | h | ⟨q, h1, h2, h3⟩)
      · exact ⟨s, by omega, by omega, .inl h⟩
      · exact ⟨s, by omega, by omega, .inr h⟩
      exact ⟨q, by omega, by omega, h3⟩
    rintro ⟨q, h1, h2, h3⟩;by_cases e : q = s
    · subst e
      rcases h3 with h3 | h3
      · exact .inl h3
      exact .inr (.inl h3)
    exact .inr (.inr ⟨q, by omega, by omega, h3⟩)
theorem y2v {f : Fd} {c : Ca} (hlo : c.l < c.o) : ∀ (n : Nat) (s : Int), 0 <= s -> s + n <= f.st.length -> (gpts (gapAlong f c n s)).Nodup
  | 0, s, _, _ => List.nodup_nil
  | n + 1, s, h0, h1 => by
    have e : gpts (gapAlong f c (n + 1) s) = pt f c.o s :: pt f c.l s :: gpts (gapAlong f c n (s + 1)) := rfl;rw [e, List.nodup_cons, List.nodup_cons];refine ⟨fun hm => ?_, fun hm => ?_, y2v hlo n (s + 1) (by omega) (by omega)⟩
    · rcases List.mem_cons.1 hm with h | h
      · have := (y2j h0 (by omega) h0 (by omega) h).1
        omega
      obtain ⟨q, h2, h3, h4 | h4⟩ := y28.1 h
      · have := (y2j h0 (by omega) (by omega) (by omega) h4).2
        omega
      have := (y2j h0 (by omega) (by omega) (by omega) h4).1;omega
    obtain ⟨q, h2, h3, h4 | h4⟩ := y28.1 hm
    · have := (y2j h0 (by omega) (by omega) (by omega) h4).1
      omega
    have := (y2j h0 (by omega) (by omega) (by omega) h4).2;omega
theorem y7i {f : Fd} {c : Ca} (h : callG f c = 0) : (gpts (gapsF f c)).Nodup /\ ∀ x ∈ gpts (gapsF f c), 0 <= x /\ x < ptsN f := by
 obtain ⟨ht, ho, hb, _⟩ := y0z h;simp only [there, Bool.and_eq_true] at ht;obtain ⟨⟨⟨⟨⟨t1, t2⟩, t3⟩, t4⟩, _⟩, _⟩ := ht;have i3 := t3;have i4 := t4;simp only [isIx, decide_eq_true_eq] at i3 i4;have hN : 0 < ptsN f := by unfold ptsN; omega
 unfold gapsF;rcases yA6 ho with k | k | k | k | k
 ·rw [if_pos k];have r := y0u t1 t3;refine ⟨?_, fun x hx => ?_⟩
  ·show [pt f c.l c.a, 0].Nodup;simp;omega
  have hx' : x ∈ [pt f c.l c.a, 0] := hx;simp only [List.mem_cons, List.not_mem_nil, or_false] at hx';omega
 ·have ho' : c.l < c.o := by
   unfold ordered at ho;rw [if_neg (by omega), if_pos k] at ho;simp only [Bool.and_eq_true, decide_eq_true_eq] at ho;exact ho.1
  rw [if_neg (by omega), if_pos k];have r := y0u t1 t3;have r2 := y0u t2 t3;refine ⟨?_, fun x hx => ?_⟩
  ·show [pt f c.o c.a, pt f c.l c.a].Nodup;simp only [List.nodup_cons, List.mem_singleton, List.not_mem_nil, not_false_eq_true, List.nodup_nil, and_true];intro e;have := (y2j i3.1 i3.2 i3.1 i3.2 e).1;omega
  have hx' : x ∈ [pt f c.o c.a, pt f c.l c.a] := hx;simp only [List.mem_cons, List.not_mem_nil, or_false] at hx';omega
 ·have ho' : c.a ≠ c.b := by
   unfold ordered at ho;rw [if_neg (by omega), if_neg (by omega), if_pos (.inl k)] at ho;simpa using ho
  rw [if_neg (by omega), if_neg (by omega), if_pos k];have r := y0u t1 t3;have r2 := y0u t1 t4;refine ⟨?_, fun x hx => ?_⟩
  ·show [pt f c.l c.b, pt f c.l c.a].Nodup;simp only [List.nodup_cons, List.mem_singleton, List.not_mem_nil, not_false_eq_true, List.nodup_nil, and_true];intro e;have := (y2j i4.1 i4.2 i3.1 i3.2 e).2;omega
  have hx' : x ∈ [pt f c.l c.b, pt f c.l c.a] := hx;simp only [List.mem_cons, List.not_mem_nil, or_false] at hx';omega
 ·have ho' : c.l < c.o /\ c.a < c.b := by
   unfold ordered at ho;rw [if_neg (by omega), if_neg (by omega), if_neg (by omega), if_pos k] at ho;simpa using ho
  rw [if_neg (by omega), if_neg (by omega), if_neg (by omega), if_neg (by omega)];refine ⟨y2v ho'.1 _ _ (by omega) (by omega), fun x hx => ?_⟩;obtain ⟨q, q1, q2, q3⟩ := y28.1 hx;have hq : isIx q f.st.length = true := by
   simp only [isIx, decide_eq_true_eq];omega
  have r := y0u t1 hq;have r2 := y0u t2 hq;rcases q3 with rfl | rfl <;> omega
 have ho' : c.a ≠ c.b := by
  unfold ordered at ho;rw [if_neg (by omega), if_neg (by omega), if_pos (.inr k)] at ho;simpa using ho
 rw [if_neg (by omega), if_neg (by omega), if_neg (by omega), if_pos k];have r := y0u t1 t3;have r2 := y0u t1 t4;refine ⟨?_, fun x hx => ?_⟩
 ·show [pt f c.l c.b, pt f c.l c.a].Nodup;simp only [List.nodup_cons, List.mem_singleton, List.not_mem_nil, not_false_eq_true, List.nodup_nil, and_true];intro e;have := (y2j i4.1 i4.2 i3.1 i3.2 e).2;omega
 have hx' : x ∈ [pt f c.l c.b, pt f c.l c.a] := hx;simp only [List.mem_cons, List.not_mem_nil, or_false] at hx';omega
theorem y4K {f : Fd} {c : Ca} (h : callG f c = 0) (r : Int) : (bnds f c r).Nodup := by
 have hn := (y7i h).1;rw [<- yCz r] at hn;exact (List.pairwise_map.1 hn).imp fun h e => h (congrArg _ e)
theorem yCX {f : Fd} {c d : Ca} (h : callG f c = 0) (h2 : callG f d = 0) : (decide ((bnds f c 0).length = (bnds f d 0).length) && sub (bnds f c 0) (bnds f d 0)) = (sub (bnds f c 0) (bnds f d 0) && sub (bnds f d 0) (bnds f c 0)) :=
 yBS (y4K h 0) (y4K h2 0)
def ends (l : List Bd) : List Int := (l.map (·.t)).filter fun x => decide (x ≠ 0)
end Dd
end

section
open Go.RowKit
theorem y01 (v : Fv) (f : Dd.Fd) : fval v f = .agg #[.slice v.a1 f.st.length v.c1, .slice v.a2 f.li.length v.c2, .slice v.a3 f.pa.length v.c3, .slice v.a4 f.va.length v.c4] := rfl
theorem y2F {l : Int} {n : Nat} (h0 : 0 <= l) (h1 : l <= 1000000) (hn : n <= 1000000) : 0 <= l * (n : Int) /\ l * (n : Int) <= 1000000000000 := by
 refine ⟨Int.mul_nonneg h0 (by omega), ?_⟩;have := Int.mul_le_mul h1 (show (n : Int) <= 1000000 by omega) (by omega) (by omega);omega
theorem y0f (v : Fv) (f : Dd.Fd) (l s : Int) (hn : f.st.length <= 1000000) (h0 : 0 <= l) (h1 : l <= 1000000) (h2 : 0 <= s) (h3 : s <= 1000000) (w : World) :
  Calls Tryz.prog 45 #[fval v f, .int .i64 l, .int .i64 s] w fun e w' => e = .returned (.int .i64 (Dd.pt f l s)) /\ Below w.heap.size w w' := by
 have hd : Dd.pt f l s = 1 + l * f.st.length + s := rfl;obtain ⟨m0, m1⟩ := y2F h0 h1 hn;rw [hd, y01];obtain ⟨P, hP⟩ := zE (l * (f.st.length : Int));rw [hP] at m0 m1 ⊢;clear hd;go_enter Tryz.func45, Tryz.ntmps45;go_wp2_with fail;go_ret;exact ⟨rfl, (Below.refl _ _).alloc (Nat.le_refl _) _⟩
theorem y7u (f : Dd.Fd) : (Dd.ptsN f : Int) = 1 + (f.li.length : Int) * f.st.length := by
 unfold Dd.ptsN;simp
theorem y1k (v : Fv) (f : Dd.Fd) (hn : f.st.length <= 1000000) (hm : f.li.length <= 1000000) (w : World) :
  Calls Tryz.prog 49 #[fval v f] w fun e w' => e = .returned (.int .i64 (Dd.ptsN f)) /\ Below w.heap.size w w' := by
 obtain ⟨m0, m1⟩ := y2F (l := f.li.length) (by omega) (by omega) hn;rw [y7u, y01];obtain ⟨P, hP⟩ := zE ((f.li.length : Int) * (f.st.length : Int));rw [hP] at m0 m1 ⊢;go_enter Tryz.func49, Tryz.ntmps49;go_wp2_with fail;go_ret;exact ⟨rfl, (Below.refl _ _).alloc (Nat.le_refl _) _⟩
theorem y88 (v : Fv) (f : Dd.Fd) (w : World) (hF : FRd w w.heap.size v f) : Calls Tryz.prog 39 #[fval v f] w fun e w' => e = .returned (.int .i64 (Dd.ptsF f)) /\ Below w.heap.size w w' := by
 have hd : Dd.ptsF f = if Dd.fieldE f = 0 then (Dd.ptsN f : Int) else 0 := rfl
 have hl1 := hF.l1;have hl2 := hF.l2;have S0 := jQ (Fs.new hF);have B0 := jQ (fun W (h : Fs w w.heap.size v f W) => y0Y v f W h.rd);have B1 := jQ (fun W => y1k v f hl1 hl2 W);rw [hd];obtain ⟨N, hN⟩ : ∃ n : Int, (Dd.ptsN f : Int) = n := ⟨_, rfl⟩;obtain ⟨ef, hef⟩ := zE (Dd.fieldE f);rw [hef] at B0 ⊢;rw [hN] at B1 ⊢;simp only [y01] at B0 B1 ⊢;obtain ⟨c0, c1, c2, c3, lg⟩ := S0.o.cells;clear hd hF hef hN;by_cases he : ef = 0
 ·subst he;rw [if_pos rfl];go_enter Tryz.func39, Tryz.ntmps39;go_wp2_with fail;refine (B0.o _ S0.o).mono ?_;rintro e w1 ⟨rfl, hb⟩;have S1 := jQ (S0.o.next hb);clear hb c0 c1 c2 c3 lg;obtain ⟨c0, c1, c2, c3, lg⟩ := S1.o.cells;go_wp2_with fail;refine (B1.o _).mono ?_;rintro e w2 ⟨rfl, hb⟩;have S2 := jQ (S1.o.next hb);clear hb c0 c1 c2 c3 lg;go_wp2_with fail;go_ret;exact ⟨rfl, S2.o.b⟩
 rw [if_neg he];have hne : (ef != 0) = true := by simp [he]
 go_enter Tryz.func39, Tryz.ntmps39;go_wp2_with fail;refine (B0.o _ S0.o).mono ?_;rintro e w1 ⟨rfl, hb⟩;have S1 := jQ (S0.o.next hb);clear hb c0 c1 c2 c3 lg;go_wp2_with fail;go_ret;exact ⟨rfl, S1.o.b⟩
end

section
namespace Dd
def keepsI (y : List Int) (b : Bd) : Bool := decide (0 <= b.f /\ b.f < y.length) && decide (0 <= b.t /\ b.t < y.length) && keepsB y b
theorem yCs {f : Fd} {b : Bd} (h : b ∈ nat f) (h1 : 1 <= f.li.length) : (0 <= b.f /\ b.f < ptsN f) /\ 0 <= b.t /\ b.t < ptsN f := by
 have hN : ptsN f = 1 + f.li.length * f.st.length := rfl;rcases List.mem_append.1 h with h | h
 ·obtain ⟨q, q1, q2, rfl | rfl⟩ := y1P.1 h
  ·dsimp only; omega
  dsimp only; omega
 obtain ⟨q, s, q1, q2, q3, rfl⟩ := y2t.1 h;have a := y7y (m := f.li.length) (n := f.st.length) (l := q) (s := s) (by omega) q3;have b := y7y (m := f.li.length) (n := f.st.length) (l := q + 1) (s := s) (by omega) q3;dsimp only;omega
theorem y9i {f : Fd} (hf : fieldE f = 0) (y : List Int) : drw f y = (decide (y.length = ptsN f) && decide (at_ y 0 = 0) && (nat f).all (keepsI y)) := by
 obtain ⟨h1, h2, _⟩ := y0G hf;have hN : ptsN f = 1 + f.li.length * f.st.length := rfl;rw [Bool.eq_iff_iff];constructor
 ·intro h;unfold drw at h;simp only [Bool.and_eq_true, decide_eq_true_eq, List.all_eq_true] at h ⊢;refine ⟨h.1.1, fun b hb => ?_⟩;have := yCs hb h1;unfold keepsI;rw [h.2 b hb, decide_eq_true (by omega), decide_eq_true (by omega)];rfl
 intro h;simp only [Bool.and_eq_true, decide_eq_true_eq, List.all_eq_true] at h;obtain ⟨⟨a1, a2⟩, a3⟩ := h;have key : ∀ b ∈ nat f, keepsB y b = true := fun b hb => by
  have := a3 b hb;unfold keepsI at this;simp only [Bool.and_eq_true] at this;exact this.2
 have hv : ∀ p : Nat, 1 <= p -> p < ptsN f -> 0 <= at_ y (p : Int) /\ at_ y (p : Int) <= 100000 := fun p q1 q2 => by
  have b1 := key ⟨0, p, 100000, 0⟩ (List.mem_append_left _ (y1P.2 ⟨p, by omega, by omega, .inl rfl⟩));have b2 := key ⟨p, 0, 0, 0⟩ (List.mem_append_left _ (y1P.2 ⟨p, by omega, by omega, .inr rfl⟩));simp only [keepsB, decide_eq_true_eq] at b1 b2;omega
 unfold drw;simp only [Bool.and_eq_true, decide_eq_true_eq, List.all_eq_true];refine ⟨⟨⟨a1, a2⟩, fun v hm => ?_⟩, key⟩;obtain ⟨i, hi, rfl⟩ := List.getElem_of_mem hm;have e : at_ y (i : Int) = y[i] := by rw [y9H]; simp [hi]
 by_cases i0 : i = 0
 ·subst i0;rw [<- e];have : at_ y ((0 : Nat) : Int) = 0 := a2;omega
 have := hv i (by omega) (by omega);omega
theorem yC5 {f : Fd} {c : Ca} (h : callG f c = 0) (r : Int) {b : Bd} (hb : b ∈ bnds f c r) : (0 <= b.f /\ b.f < ptsN f) /\ 0 <= b.t /\ b.t < ptsN f := by
 have hr := (y7i h).2;have h1 : b.f ∈ gpts (gapsF f c) := yBu.1 ⟨b, hb, .inl rfl⟩;have h2 : b.t ∈ gpts (gapsF f c) := yBu.1 ⟨b, hb, .inr rfl⟩;exact ⟨hr _ h1, hr _ h2⟩
end Dd
end

section
namespace Dd
theorem y5k {α β : Type} {g : α -> List β} (hg : ∀ a, (g a).length = 2) (l : List α) : (l.flatMap g).length = 2 * l.length := by
 induction l with
 | nil => rfl
 | cons a t ih => rw [List.flatMap_cons, List.length_append, hg, ih, List.length_cons]; omega
theorem y7g {α β : Type} {g : α -> List β} (hg : ∀ a, (g a).length = 2) (l : List α) {k j : Nat} (hk : k < l.length) (hj : j < 2) : (l.flatMap g)[2 * k + j]? = (g l[k])[j]? := by
  induction l generalizing k with
  | nil => simp at hk
  | cons a t ih =>
    rw [List.flatMap_cons];cases k with
    | zero =>
      rw [List.getElem?_append_left (by rw [hg]; omega)];simp
    | succ k =>
      rw [List.getElem?_append_right (by rw [hg]; omega), hg, show 2 * (k + 1) + j - 2 = 2 * k + j by omega];simpa using ih (k := k) (by simpa using hk)
theorem y1s (f : Fd) (x : Ca) (r : Int) : (bnds f x r).length = 2 * (gapsF f x).length := y5k (fun _ => rfl) _
theorem y0F {f : Fd} {x : Ca} (h : callE f x = 0) : fieldE f = 0 /\ callG f x = 0 := by
 unfold callE at h;by_cases h0 : fieldE f = 0
 ·rw [if_neg (by simp [h0])] at h;exact ⟨h0, h⟩
 rw [if_pos h0] at h;exact absurd h h0
theorem y9j {f : Fd} {y : List Int} (h : drw f y = true) {n : Nat} (hn : n < y.length) : at_ y (n : Int) = y[n] /\ -400000000 <= y[n] /\ y[n] <= 400000000 := by
 refine ⟨by rw [y9H]; simp [hn], ?_⟩;unfold drw at h;simp only [Bool.and_eq_true, decide_eq_true_eq, List.all_eq_true] at h;exact h.1.2 _ (List.getElem_mem hn)
abbrev Ib (f : Fd) (x : Ca) (r : Int) : Type := { b : Bd // b ∈ bnds f x r }
theorem yC4 (f : Fd) (x : Ca) (r : Int) {k : Nat} (hk : k < (gapsF f x).length) :
  ∃ (h1 : (⟨(gapsF f x)[k].1, (gapsF f x)[k].2.1, (gapsF f x)[k].2.2.2, r⟩ : Bd) ∈ bnds f x r) (h2 : (⟨(gapsF f x)[k].2.1, (gapsF f x)[k].1, -(gapsF f x)[k].2.2.1, r⟩ : Bd) ∈ bnds f x r),
   (bnds f x r).attach.take (2 * k) ++ [⟨_, h1⟩] = (bnds f x r).attach.take (2 * k + 1) /\ (bnds f x r).attach.take (2 * k + 1) ++ [⟨_, h2⟩] = (bnds f x r).attach.take (2 * (k + 1)) := by
 have e1 : (bnds f x r)[2 * k + 0]? = some ⟨(gapsF f x)[k].1, (gapsF f x)[k].2.1, (gapsF f x)[k].2.2.2, r⟩ := y7g (g := pairB r) (fun _ => rfl) _ hk (by decide);have e2 : (bnds f x r)[2 * k + 1]? = some ⟨(gapsF f x)[k].2.1, (gapsF f x)[k].1, -(gapsF f x)[k].2.2.1, r⟩ := y7g (g := pairB r) (fun _ => rfl) _ hk (by decide);rw [Nat.add_zero] at e1;obtain ⟨g1, e1⟩ := List.getElem?_eq_some_iff.1 e1;obtain ⟨g2, e2⟩ := List.getElem?_eq_some_iff.1 e2;have m1 : (⟨(gapsF f x)[k].1, (gapsF f x)[k].2.1, (gapsF f x)[k].2.2.2, r⟩ : Bd) ∈ bnds f x r := by rw [<- e1]; exact List.getElem_mem g1
 have m2 : (⟨(gapsF f x)[k].2.1, (gapsF f x)[k].1, -(gapsF f x)[k].2.2.1, r⟩ : Bd) ∈ bnds f x r := by rw [<- e2]; exact List.getElem_mem g2
 refine ⟨m1, m2, ?_, ?_⟩
 ·have : (bnds f x r).attach[2 * k]? = some ⟨_, m1⟩ := by simp [g1, e1]
  rw [List.take_add_one, this];rfl
 have : (bnds f x r).attach[2 * k + 1]? = some ⟨_, m2⟩ := by simp [g2, e2]
 rw [show 2 * (k + 1) = (2 * k + 1) + 1 by omega, List.take_add_one (i := 2 * k + 1), this];rfl
theorem yC6 (f : Fd) (x : Ca) (r : Int) {k : Nat} (hk : k < (gapsF f x).length) {p q lo hi : Int} (hg : (gapsF f x)[k] = (p, q, lo, hi)) :
  ∃ (h1 : (⟨p, q, hi, r⟩ : Bd) ∈ bnds f x r) (h2 : (⟨q, p, -lo, r⟩ : Bd) ∈ bnds f x r),
   (bnds f x r).attach.take (2 * k) ++ [⟨_, h1⟩] = (bnds f x r).attach.take (2 * k + 1) /\ (bnds f x r).attach.take (2 * k + 1) ++ [⟨_, h2⟩] = (bnds f x r).attach.take (2 * (k + 1)) := by
 have h := yC4 f x r hk;rw [hg] at h;exact h
theorem y4J {f : Fd} {c : Ca} {g : Int × Int × Int × Int} : ∀ (n : Nat) (s : Int), g ∈ gapAlong f c n s -> g.2.2.1 = 0
  | 0, s, h => by cases h
  | n + 1, s, h => by
    rcases List.mem_cons.1 h with rfl | h
    · rfl
    exact y4J n (s + 1) h
theorem y7h {f : Fd} {x : Ca} (h : callE f x = 0) {g : Int × Int × Int × Int} (hg : g ∈ gapsF f x) : -1000000 <= g.2.2.1 /\ g.2.2.1 <= 1000000 := by
 have hG : callG f x = 0 := by
  unfold callE at h;by_cases h0 : fieldE f = 0
  ·rwa [if_neg (by simp [h0])] at h
  rw [if_pos h0] at h; exact absurd h h0
 obtain ⟨ht, ho, hb, h3⟩ := y0z hG;simp only [there, Bool.and_eq_true, decide_eq_true_eq] at ht;obtain ⟨⟨_, t5⟩, t6⟩ := ht;unfold gapsF at hg;split at hg
 ·rw [List.mem_singleton] at hg; subst hg; dsimp only; omega
 split at hg
 ·rw [List.mem_singleton] at hg; subst hg; dsimp only; omega
 split at hg
 ·rename_i k3;rw [List.mem_singleton] at hg;subst hg;dsimp only;obtain ⟨e1, e2⟩ := h3 k3;have he : Cs.eastE f.va [x.c] (run f x) = 0 := by
   rcases Int.decEq (Cs.eastE f.va [x.c] (run f x)) 0 with h | h
   ·rw [Cs.y35 h] at e1; exact absurd e1 h
   exact h
  rw [Cs.y5c he];have hr := Cs.y8K f.va (dx := run f x) [x.c] (-100000) 100000 (by decide) (by decide) (by decide);dsimp only;omega
 split at hg
 ·rw [List.mem_singleton] at hg; subst hg; dsimp only; omega
 have := y4J _ _ hg;omega
theorem yBp (f : Fd) (c : Ca) : ∀ (n : Nat) (s : Int), (gapAlong f c n s).length = n
 | 0, _ => rfl
 | n + 1, s => by rw [gapAlong, List.length_cons, yBp f c n (s + 1)]
theorem y2C {f : Fd} {x : Ca} (h : callE f x = 0) : (gapsF f x).length <= f.st.length + 1 := by
 have hG : callG f x = 0 := by
  unfold callE at h;by_cases h0 : fieldE f = 0
  ·rwa [if_neg (by simp [h0])] at h
  rw [if_pos h0] at h; exact absurd h h0
 have ht := (y0z hG).1;simp only [there, isIx, Bool.and_eq_true, decide_eq_true_eq] at ht;unfold gapsF;split
 ·simp
 split
 ·simp
 split
 ·simp
 split
 ·simp
 rw [yBp];omega
end Dd
end

section
open Go.RowKit
theorem y0N (n a b : Int) (w : World) : Calls Tryz.prog 51 #[.int .i64 n, .int .i64 a, .int .i64 b] w fun e w' => e = .returned (.bool (decide (a <= n /\ n <= b))) /\ w' = w := by
 by_cases h1 : a <= n
 ·have d1 : decide (n ≥ a) = true := decide_eq_true h1;by_cases h2 : n <= b
  ·have d2 : decide (n <= b) = true := decide_eq_true h2;have HR := jQ (show decide (a <= n /\ n <= b) = true from decide_eq_true ⟨h1, h2⟩);rw [HR.o];clear h1 h2;go_enter Tryz.func51, Tryz.ntmps51;go_wp2_with fail;go_ret;exact ⟨rfl, rfl⟩
  have d2 : decide (n <= b) = false := decide_eq_false h2;have HR := jQ (show decide (a <= n /\ n <= b) = false from decide_eq_false (by omega));rw [HR.o];clear h1 h2;go_enter Tryz.func51, Tryz.ntmps51;go_wp2_with fail;go_ret;exact ⟨rfl, rfl⟩
 have d1 : decide (n ≥ a) = false := decide_eq_false h1;have HR := jQ (show decide (a <= n /\ n <= b) = false from decide_eq_false (by omega));rw [HR.o];clear h1;go_enter Tryz.func51, Tryz.ntmps51;go_wp2_with fail;go_ret;exact ⟨rfl, rfl⟩
theorem y8v (A : Option Addr) (c : Nat) (l : List Cs.Bs) (s : Cs.Bs) (w : World) (hR : Rd w w.heap.size 1 A l.length (wcells l)) (hl : l.length <= 1000000) :
  Calls Tryz.prog 88 #[.slice A l.length c, .string ⟨s.toArray⟩] w fun e w' => e = .returned (.int .i64 (Dd.idxP (fun x => decide (x = s)) l 0)) /\ Below w.heap.size w w' := by
 have HR := jQ hR;obtain ⟨R, hRR⟩ := zE (Dd.idxP (fun x => decide (x = s)) l 0);rw [hRR];have HRR := jQ hRR;clear hR hRR;go_enter Tryz.func88, Tryz.ntmps88;go_wp2_with fail;go_loopw [5] (fun I wr => ∃ k : Nat, k <= l.length /\ I = .int .i64 k /\ (∀ j (h : j < l.length), j < k -> decide (l[j] = s) = false) /\ Below w.heap.size w wr) (fun I _ => l.length - (intOf I).toNat)
 case atStart => exact ⟨0, Nat.zero_le _, rfl, (fun j h hj => absurd hj (by omega)), Below.refl _ _⟩
 obtain ⟨k, hk, rfl, ha, hB⟩ := hrel;have HA := jQ ha;have HB := jQ hB;clear ha hB;by_cases hlt : k < l.length
 ·obtain ⟨b, off, rfl, hb, e0⟩ := (HR.o.below HB.o (Nat.le_refl _)).text hlt;have hb2 : b < wr.heap.size := Nat.lt_of_lt_of_le hb HB.o.size;obtain ⟨x, hx⟩ := zE (l[k]);rw [hx] at e0;have HX := jQ hx;by_cases hxs : x = s
  ·have HRK := jQ (show R = k by rw [<- HRR.o]; exact Dd.y1h hlt (by rw [HX.o]; exact decide_eq_true hxs) (fun j hj => HA.o j (by omega) hj));subst hxs;clear hx;go_wp2_with fail;go_ret;exact ⟨y02 HRK.o.symm, HB.o⟩
  have HXS := jQ hxs;clear hx;have hbe : (x == s) = false := by simpa using hxs
  clear hxs;go_wp2_with fail;go_roundw
  case rel =>
   refine ⟨k + 1, by omega, by go_num, fun j h hj => ?_, HB.o⟩;by_cases e : j = k
   ·subst e;rw [HX.o];exact decide_eq_false HXS.o
   exact HA.o j h (by omega)
  case measure => simp [intOf]; omega
 have HRK := jQ (show R = -1 by rw [<- HRR.o]; exact Dd.y1i (fun j h => HA.o j h (by omega)));obtain rfl : k = l.length := by omega
 go_wp2_with fail;go_ret;exact ⟨y02 HRK.o.symm, HB.o⟩
def Dd.comQ (p q : Dd.Pa) : Int := max 0 (min p.east q.east - max p.west q.west + 1)
theorem Dd.y6k (p q : Dd.Pa) : decide (1 < Dd.comQ p q) = Dd.facing p q := by
 unfold Dd.comQ Dd.facing;rw [Bool.eq_iff_iff];simp only [decide_eq_true_eq];omega
def Dd.Small (p : Dd.Pa) : Prop := -1000000 <= p.west /\ p.west <= 1000000 /\ -1000000 <= p.east /\ p.east <= 1000000
theorem y7D (p q : Dd.Pa) (hp : Dd.Small p) (hq : Dd.Small q) (w : World) : Calls Tryz.prog 52 #[.agg #[.string ⟨p.name.toArray⟩, .int .i64 p.south, .int .i64 p.west, .int .i64 p.east], .agg #[.string ⟨q.name.toArray⟩, .int .i64 q.south, .int .i64 q.west, .int .i64 q.east]] w
  fun e w' => e = .returned (.int .i64 (Dd.comQ p q)) /\ Below w.heap.size w w' := by
 obtain ⟨p1, p2, p3, p4⟩ := hp;obtain ⟨q1, q2, q3, q4⟩ := hq;have hd : Dd.comQ p q = max 0 (min p.east q.east - max p.west q.west + 1) := rfl;obtain ⟨n1, s1, a1, b1⟩ := p;obtain ⟨n2, s2, a2, b2⟩ := q;dsimp only at p1 p2 p3 p4 q1 q2 q3 q4 hd ⊢;have hw1 : IntKind.i64.wrap (min b1 b2 - max a1 a2) = min b1 b2 - max a1 a2 := IntWalk.i64_in _ (by omega);have hw2 : IntKind.i64.wrap (min b1 b2 - max a1 a2 + 1) = min b1 b2 - max a1 a2 + 1 := IntWalk.i64_in _ (by omega);have HD := jQ hd;obtain ⟨R, hR⟩ := zE (Dd.comQ ⟨n1, s1, a1, b1⟩ ⟨n2, s2, a2, b2⟩);rw [hR] at HD ⊢;clear hd hR p1 p2 p3 p4 q1 q2 q3 q4;go_enter Tryz.func52, Tryz.ntmps52;go_wp2_with fail;go_ret;exact ⟨y02 HD.o.symm, ((Below.refl _ _).alloc (Nat.le_refl _) _).alloc (by simp) _⟩
theorem y0b (v : Fv) (f : Dd.Fd) (l s : Int) (hn : f.st.length <= 1000000) (h0 : 0 <= l) (h1 : l <= 1000000) (h2 : 0 <= s) (h3 : s <= 1000000) (w : World) :
  Calls Tryz.prog 47 #[fval v f, .int .i64 l, .int .i64 s] w fun e w' => e = .returned (.int .i64 (Dd.pt f l s)) /\ Below w.heap.size w w' := by
 have hd : Dd.pt f l s = 1 + l * f.st.length + s := rfl;obtain ⟨m0, m1⟩ := y2F h0 h1 hn;rw [hd, y01];obtain ⟨P, hP⟩ := zE (l * (f.st.length : Int));rw [hP] at m0 m1 ⊢;clear hd;go_enter Tryz.func47, Tryz.ntmps47;go_wp2_with fail;go_ret;exact ⟨rfl, (Below.refl _ _).alloc (Nat.le_refl _) _⟩
theorem y7E (v : Fv) (f : Dd.Fd) (l s : Int) (hn : f.st.length <= 1000000) (hm : f.li.length <= 1000000) (w : World) :
  Calls Tryz.prog 46 #[fval v f, .int .i64 l, .int .i64 s] w fun e w' => e = .returned (.bool (Dd.isIx l f.li.length && Dd.isIx s f.st.length)) /\ Below w.heap.size w w' := by
 have h1 : decide (0 <= l /\ l <= (f.li.length : Int) - 1) = Dd.isIx l f.li.length := by unfold Dd.isIx; rw [Bool.eq_iff_iff]; simp only [decide_eq_true_eq]; omega
 have h2 : decide (0 <= s /\ s <= (f.st.length : Int) - 1) = Dd.isIx s f.st.length := by unfold Dd.isIx; rw [Bool.eq_iff_iff]; simp only [decide_eq_true_eq]; omega
 have H1 := jQ (fun W => h1 ▸ y0N l 0 ((f.li.length : Int) - 1) W);have H2 := jQ (fun W => h2 ▸ y0N s 0 ((f.st.length : Int) - 1) W);rw [y01];obtain ⟨p, hp⟩ := zE (Dd.isIx l f.li.length);obtain ⟨q, hq⟩ := zE (Dd.isIx s f.st.length);rw [hp] at H1 ⊢;rw [hq] at H2 ⊢;have HB := jQ ((Below.refl w.heap.size w).alloc (Nat.le_refl _) (.cells #[.slice v.a1 f.st.length v.c1, .slice v.a2 f.li.length v.c2, .slice v.a3 f.pa.length v.c3, .slice v.a4 f.va.length v.c4] 27));clear h1 h2 hp hq;rcases p with _ | _
 ·go_enter Tryz.func46, Tryz.ntmps46;go_wp2_with fail;refine (H1.o _).mono ?_;rintro e w' ⟨rfl, rfl⟩;go_wp2_with fail;go_ret;exact ⟨rfl, HB.o⟩
 go_enter Tryz.func46, Tryz.ntmps46;go_wp2_with fail;refine (H1.o _).mono ?_;rintro e w' ⟨rfl, rfl⟩;go_wp2_with fail;refine (H2.o _).mono ?_;rintro e w' ⟨rfl, rfl⟩;go_wp2_with fail;go_ret;exact ⟨by rw [Bool.true_and]; rfl, HB.o⟩
theorem yCu {l : Cs.Bs} {k : Nat} (hk : k < l.length) (h : k < (⟨l.toArray⟩ : ByteArray).size) : (⟨l.toArray⟩ : ByteArray)[k] = l[k] := rfl
theorem yAQ (s : Cs.Bs) (hs : s.length <= 1000000) (w : World) : Calls Tryz.prog 87 #[.string ⟨s.toArray⟩] w fun e w' => e = .returned (.bool (Dd.nameF s)) /\ Below w.heap.size w w' := by
 have hbs : (⟨s.toArray⟩ : ByteArray).size = s.length := by show s.toArray.size = _; simp
 obtain ⟨R, hR⟩ := zE (Dd.nameF s);rw [hR];have HR := jQ hR;clear hR;by_cases h0 : s.length < 1
 ·have d1 : decide ((s.length : Int) < 1) = true := decide_eq_true (by omega);have HRF := jQ (show R = false by
   rw [<- HR.o];obtain rfl : s = [] := by cases s with | nil => rfl | cons a b => simp at h0
   rfl)
  go_enter Tryz.func87, Tryz.ntmps87;go_wp2_with fail;go_ret;exact ⟨y00 HRF.o.symm, Below.refl _ _⟩
 have d1 : decide ((s.length : Int) < 1) = false := decide_eq_false (by omega);by_cases h1 : 24 < s.length
 ·have d2 : decide ((s.length : Int) > 24) = true := decide_eq_true (by omega);have HRF := jQ (show R = false by
   rw [<- HR.o];unfold Dd.nameF;rw [decide_eq_false (by omega), Bool.false_and, Bool.false_and])
  go_enter Tryz.func87, Tryz.ntmps87;go_wp2_with fail;go_ret;exact ⟨y00 HRF.o.symm, Below.refl _ _⟩
 have d2 : decide ((s.length : Int) > 24) = false := decide_eq_false (by omega);have h00 : 0 < s.length := by omega
 have hb0 := fun h => yCu h00 h;have hhead : Dd.headF s = Dd.isLet s[0] := by cases s with | nil => simp at h00 | cons a b => rfl
 have hsz0 : 0 < (⟨s.toArray⟩ : ByteArray).size := by omega
 have hc := (s[0]).toNat_lt;have hlet : Dd.isLet s[0] = decide (97 <= (s[0]).toNat /\ (s[0]).toNat <= 122) := rfl;obtain ⟨c, hcc⟩ := zE (s[0]);rw [hcc] at hhead hc hlet;simp only [hcc] at hb0;obtain ⟨m, hm⟩ := zE (c.toNat);rw [hm] at hc hlet;have HHEAD := jQ (hhead.trans hlet);clear hhead hlet hcc;by_cases h2 : m < 97
 ·have d3 : decide ((m : Int) < 97) = true := decide_eq_true (by omega);have HRF := jQ (show R = false by
   rw [<- HR.o];unfold Dd.nameF;rw [HHEAD.o, decide_eq_false (p := 97 <= m /\ m <= 122) (by omega), Bool.and_false, Bool.false_and])
  go_enter Tryz.func87, Tryz.ntmps87;go_wp2_with fail;go_ret;exact ⟨y00 HRF.o.symm, Below.refl _ _⟩
 have d3 : decide ((m : Int) < 97) = false := decide_eq_false (by omega);by_cases h3 : 122 < m
 ·have d4 : decide ((m : Int) > 122) = true := decide_eq_true (by omega);have HRF := jQ (show R = false by
   rw [<- HR.o];unfold Dd.nameF;rw [HHEAD.o, decide_eq_false (p := 97 <= m /\ m <= 122) (by omega), Bool.and_false, Bool.false_and])
  go_enter Tryz.func87, Tryz.ntmps87;go_wp2_with fail;go_ret;exact ⟨y00 HRF.o.symm, Below.refl _ _⟩
 have d4 : decide ((m : Int) > 122) = false := decide_eq_false (by omega);have HALL := jQ (show R = s.all Dd.nameC by
  rw [<- HR.o];unfold Dd.nameF;rw [HHEAD.o, decide_eq_true (p := 97 <= m /\ m <= 122) (by omega), decide_eq_true (by omega), Bool.true_and, Bool.true_and])
 clear HR h0 h1 h2 h3 hc HHEAD;go_enter Tryz.func87, Tryz.ntmps87;go_wp2_with fail;clear hb0 d1 d2 d3 d4 hm hsz0;go_loopw [3] (fun I wr => ∃ k : Nat, k <= s.length /\ I = .int .i64 k /\ wr = w /\ ∀ j (h : j < s.length), j < k -> Dd.nameC s[j] = true) (fun I _ => s.length - (intOf I).toNat)
 case atStart => exact ⟨0, Nat.zero_le _, rfl, rfl, fun j h hj => absurd hj (by omega)⟩
 obtain ⟨k, hk, rfl, rfl, ha⟩ := hrel;have HA := jQ ha;clear ha;by_cases hlt : k < s.length
 ·have hbk := fun h => yCu hlt h;have hszk : k < (⟨s.toArray⟩ : ByteArray).size := by omega
  have HNO := jQ (show Dd.nameC s[k] = false -> R = false by
   intro h;rw [HALL.o, <- Bool.not_eq_true, List.all_eq_true];intro h2;have := h2 _ (List.getElem_mem hlt);rw [h] at this;cases this)
  have hnc : Dd.nameC s[k] = (decide (97 <= (s[k]).toNat /\ (s[k]).toNat <= 122) || decide (48 <= (s[k]).toNat /\ (s[k]).toNat <= 57) || decide ((s[k]).toNat = 45)) := rfl;have hbr := (s[k]).toNat_lt;obtain ⟨x, hx⟩ := zE (s[k]);rw [hx] at hnc hbr HNO;simp only [hx] at hbk;have HX := jQ hx;obtain ⟨n, hn⟩ := zE (x.toNat);rw [hn] at hnc hbr;have HNC := jQ hnc;clear hnc hx;by_cases q1 : n < 97
  ·by_cases q2 : n < 48
   ·by_cases q : n = 45
    ·have d1 : decide ((n : Int) < 97) = true := decide_eq_true (by omega);have d3 : decide ((n : Int) < 48) = true := decide_eq_true (by omega);have d5 : ((n : Int) != 45) = false := by rw [q]; rfl
     have HV := jQ (show Dd.nameC x = true by rw [HNC.o]; simp only [Bool.or_eq_true, decide_eq_true_eq]; omega);go_wp2_with fail;go_roundw
     case rel =>
      refine ⟨k + 1, by omega, by go_num, trivial, fun j h hj => ?_⟩;by_cases e : j = k
      ·subst e;rw [HX.o];exact HV.o
      exact HA.o j h (by omega)
     case measure => simp [intOf]; omega
    have d1 : decide ((n : Int) < 97) = true := decide_eq_true (by omega);have d3 : decide ((n : Int) < 48) = true := decide_eq_true (by omega);have d5 : ((n : Int) != 45) = true := by simp only [bne_iff_ne]; omega
    have HV := jQ (HNO.o (by rw [HNC.o, Bool.eq_false_iff]; simp only [ne_eq, Bool.or_eq_true, decide_eq_true_eq]; omega));go_wp2_with fail;go_ret;exact ⟨y00 HV.o.symm, Below.refl _ _⟩
   by_cases q3 : 57 < n
   ·have d1 : decide ((n : Int) < 97) = true := decide_eq_true (by omega);have d3 : decide ((n : Int) < 48) = false := decide_eq_false (by omega);have d4 : decide ((n : Int) > 57) = true := decide_eq_true (by omega);have d5 : ((n : Int) != 45) = true := by simp only [bne_iff_ne]; omega
    have HV := jQ (HNO.o (by rw [HNC.o, Bool.eq_false_iff]; simp only [ne_eq, Bool.or_eq_true, decide_eq_true_eq]; omega));go_wp2_with fail;go_ret;exact ⟨y00 HV.o.symm, Below.refl _ _⟩
   have d1 : decide ((n : Int) < 97) = true := decide_eq_true (by omega);have d3 : decide ((n : Int) < 48) = false := decide_eq_false (by omega);have d4 : decide ((n : Int) > 57) = false := decide_eq_false (by omega);have HV := jQ (show Dd.nameC x = true by rw [HNC.o]; simp only [Bool.or_eq_true, decide_eq_true_eq]; omega);go_wp2_with fail;go_roundw
   case rel =>
    refine ⟨k + 1, by omega, by go_num, trivial, fun j h hj => ?_⟩;by_cases e : j = k
    ·subst e;rw [HX.o];exact HV.o
    exact HA.o j h (by omega)
   case measure => simp [intOf]; omega
  by_cases q4 : 122 < n
  ·have d1 : decide ((n : Int) < 97) = false := decide_eq_false (by omega);have d2 : decide ((n : Int) > 122) = true := decide_eq_true (by omega);have d3 : decide ((n : Int) < 48) = false := decide_eq_false (by omega);have d4 : decide ((n : Int) > 57) = true := decide_eq_true (by omega);have d5 : ((n : Int) != 45) = true := by simp only [bne_iff_ne]; omega
   have HV := jQ (HNO.o (by rw [HNC.o, Bool.eq_false_iff]; simp only [ne_eq, Bool.or_eq_true, decide_eq_true_eq]; omega));go_wp2_with fail;go_ret;exact ⟨y00 HV.o.symm, Below.refl _ _⟩
  have d1 : decide ((n : Int) < 97) = false := decide_eq_false (by omega);have d2 : decide ((n : Int) > 122) = false := decide_eq_false (by omega);have HV := jQ (show Dd.nameC x = true by rw [HNC.o]; simp only [Bool.or_eq_true, decide_eq_true_eq]; omega);go_wp2_with fail;go_roundw
  case rel =>
   refine ⟨k + 1, by omega, by go_num, trivial, fun j h hj => ?_⟩;by_cases e : j = k
   ·subst e;rw [HX.o];exact HV.o
   exact HA.o j h (by omega)
  case measure => simp [intOf]; omega
 have HRT := jQ (show R = true by
  rw [HALL.o, List.all_eq_true];intro x hx;obtain ⟨j, hj, rfl⟩ := List.getElem_of_mem hx;exact HA.o j hj (by omega))
 obtain rfl : k = s.length := by omega
 go_wp2_with fail;go_ret;exact ⟨y00 HRT.o.symm, Below.refl _ _⟩
end
end Go.Proofs.YtccikcpcfdjobaaGreatDoor
