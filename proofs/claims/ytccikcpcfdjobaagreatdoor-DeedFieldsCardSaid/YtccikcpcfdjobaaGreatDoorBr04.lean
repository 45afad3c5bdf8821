/-
  What the claims of layer deed need of the texts Exm, DCal, DBm, DBak, DBal.
-/
import Derived.Test.YtccikcpcfdjobaaGreatDoorBr00
import Derived.Test.YtccikcpcfdjobaaGreatDoorBr01
import Derived.Test.YtccikcpcfdjobaaGreatDoorBz
set_option linter.unusedVariables false
set_option linter.unusedSimpArgs false
set_option maxHeartbeats 8000000
set_option maxRecDepth 100000
namespace Go.Proofs.YtccikcpcfdjobaaGreatDoor
section
namespace Cs
theorem comF_err1 {vs : List (Int × Int)} {c : Co} {dx : Int} (h : eastE vs [c] dx ≠ 0) : comF vs [c] dx = ((0, 0, false), eastE vs [c] dx) := by
 rw [comF, if_neg (by simp), if_neg (by simp), if_pos h]
theorem comF_zero {vs : List (Int × Int)} {c : Co} {dx : Int} (h : eastE vs [c] dx = 0) : comF vs [c] dx = (comG vs dx (-100000, 100000) [c], 0) := by
 rw [comF, if_neg (by simp), if_neg (by simp), if_neg (by rw [h]; simp)]
end Cs
end

section
namespace Dd
theorem field_facts {f : Fd} (h : fieldE f = 0) : 1 ≤ f.li.length ∧ 2 ≤ f.st.length ∧ f.st.length ≤ 12 ∧ f.li.length ≤ 10 ∧ f.pa.length ≤ 40 ∧ Cs.varsE f.va = 0 ∧ namesF f = true ∧ distF f = true ∧ rangeF f = true ∧ orderF f = true := by
 unfold fieldE at h
 split at h
 ·omega
 ·split at h
  ·omega
  ·split at h
   ·rename_i h1 h2 h3; exact absurd h h3
   ·split at h
    ·omega
    ·split at h
     ·omega
     ·split at h
      ·omega
      ·split at h
       ·omega
       ·rename_i h1 h2 h3 h4 h5 h6 h7
        simp only [Bool.not_eq_false] at h4 h5 h6 h7
        exact ⟨by omega, by omega, by omega, by omega, by omega, by omega, h4, h5, h6, h7⟩
theorem callG_zero {f : Fd} {c : Ca} (h : callG f c = 0) : there f c = true ∧ ordered c = true ∧ bare c = true ∧ (c.k = 3 → (Cs.comF f.va [c.c] (run f c)).2 = 0 ∧ (Cs.comF f.va [c.c] (run f c)).1.2.2 = true) := by
 unfold callG at h
 split at h
 ·rename_i hc
  simp only [Bool.and_eq_true] at hc
  refine ⟨hc.1.1, hc.1.2, hc.2, fun hk => ?_⟩
  rw [if_neg (by simpa using hk)] at h
  split at h
  ·rename_i h2; exact absurd h h2
  ·rename_i h2
   split at h
   ·rename_i h3; exact ⟨by omega, h3⟩
   ·omega
 ·omega
def near (a b m : Int) : Bool := decide (a - b ≤ m) && decide (b - a ≤ m)
end Dd
end

section
namespace Dd
theorem flat2_len {α β : Type} {g : α → List β} (hg : ∀ a, (g a).length = 2) (l : List α) : (l.flatMap g).length = 2 * l.length := by
 induction l with
 | nil => rfl
 | cons a t ih => rw [List.flatMap_cons, List.length_append, hg, ih, List.length_cons]; omega
theorem flat2_at {α β : Type} {g : α → List β} (hg : ∀ a, (g a).length = 2) (l : List α) {k j : Nat} (hk : k < l.length) (hj : j < 2) : (l.flatMap g)[2 * k + j]? = (g l[k])[j]? := by
  induction l generalizing k with
  | nil => simp at hk
  | cons a t ih =>
    rw [List.flatMap_cons]
    cases k with
    | zero =>
      rw [List.getElem?_append_left (by rw [hg]; omega)]
      simp
    | succ k =>
      rw [List.getElem?_append_right (by rw [hg]; omega), hg, show 2 * (k + 1) + j - 2 = 2 * k + j by omega]
      simpa using ih (k := k) (by simpa using hk)
theorem bnds_len (f : Fd) (x : Ca) (r : Int) : (bnds f x r).length = 2 * (gapsF f x).length := flat2_len (fun _ => rfl) _
abbrev Ib (f : Fd) (x : Ca) (r : Int) : Type := { b : Bd // b ∈ bnds f x r }
theorem bnds_at (f : Fd) (x : Ca) (r : Int) {k : Nat} (hk : k < (gapsF f x).length) :
  ∃ (h1 : (⟨(gapsF f x)[k].1, (gapsF f x)[k].2.1, (gapsF f x)[k].2.2.2, r⟩ : Bd) ∈ bnds f x r) (h2 : (⟨(gapsF f x)[k].2.1, (gapsF f x)[k].1, -(gapsF f x)[k].2.2.1, r⟩ : Bd) ∈ bnds f x r),
   (bnds f x r).attach.take (2 * k) ++ [⟨_, h1⟩] = (bnds f x r).attach.take (2 * k + 1) ∧ (bnds f x r).attach.take (2 * k + 1) ++ [⟨_, h2⟩] = (bnds f x r).attach.take (2 * (k + 1)) := by
 have e1 : (bnds f x r)[2 * k + 0]? = some ⟨(gapsF f x)[k].1, (gapsF f x)[k].2.1, (gapsF f x)[k].2.2.2, r⟩ := flat2_at (g := pairB r) (fun _ => rfl) _ hk (by decide)
 have e2 : (bnds f x r)[2 * k + 1]? = some ⟨(gapsF f x)[k].2.1, (gapsF f x)[k].1, -(gapsF f x)[k].2.2.1, r⟩ := flat2_at (g := pairB r) (fun _ => rfl) _ hk (by decide)
 rw [Nat.add_zero] at e1
 obtain ⟨g1, e1⟩ := List.getElem?_eq_some_iff.1 e1
 obtain ⟨g2, e2⟩ := List.getElem?_eq_some_iff.1 e2
 have m1 : (⟨(gapsF f x)[k].1, (gapsF f x)[k].2.1, (gapsF f x)[k].2.2.2, r⟩ : Bd) ∈ bnds f x r := by rw [← e1]; exact List.getElem_mem g1
 have m2 : (⟨(gapsF f x)[k].2.1, (gapsF f x)[k].1, -(gapsF f x)[k].2.2.1, r⟩ : Bd) ∈ bnds f x r := by rw [← e2]; exact List.getElem_mem g2
 refine ⟨m1, m2, ?_, ?_⟩
 ·have : (bnds f x r).attach[2 * k]? = some ⟨_, m1⟩ := by simp [g1, e1]
  rw [List.take_add_one, this]
  rfl
 ·have : (bnds f x r).attach[2 * k + 1]? = some ⟨_, m2⟩ := by simp [g2, e2]
  rw [show 2 * (k + 1) = (2 * k + 1) + 1 by omega, List.take_add_one (i := 2 * k + 1), this]
  rfl
theorem bnds_of (f : Fd) (x : Ca) (r : Int) {k : Nat} (hk : k < (gapsF f x).length) {p q lo hi : Int} (hg : (gapsF f x)[k] = (p, q, lo, hi)) :
  ∃ (h1 : (⟨p, q, hi, r⟩ : Bd) ∈ bnds f x r) (h2 : (⟨q, p, -lo, r⟩ : Bd) ∈ bnds f x r),
   (bnds f x r).attach.take (2 * k) ++ [⟨_, h1⟩] = (bnds f x r).attach.take (2 * k + 1) ∧ (bnds f x r).attach.take (2 * k + 1) ++ [⟨_, h2⟩] = (bnds f x r).attach.take (2 * (k + 1)) := by
 have h := bnds_at f x r hk
 rw [hg] at h
 exact h
theorem along_zero {f : Fd} {c : Ca} {g : Int × Int × Int × Int} : ∀ (n : Nat) (s : Int), g ∈ gapAlong f c n s → g.2.2.1 = 0
  | 0, s, h => by cases h
  | n + 1, s, h => by
    rcases List.mem_cons.1 h with rfl | h
    · rfl
    · exact along_zero n (s + 1) h
theorem gaps_low {f : Fd} {x : Ca} (h : callE f x = 0) {g : Int × Int × Int × Int} (hg : g ∈ gapsF f x) : -1000000 ≤ g.2.2.1 ∧ g.2.2.1 ≤ 1000000 := by
 have hG : callG f x = 0 := by
  unfold callE at h
  by_cases h0 : fieldE f = 0
  ·rwa [if_neg (by simp [h0])] at h
  ·rw [if_pos h0] at h; exact absurd h h0
 obtain ⟨ht, ho, hb, h3⟩ := callG_zero hG
 simp only [there, Bool.and_eq_true, decide_eq_true_eq] at ht
 obtain ⟨⟨_, t5⟩, t6⟩ := ht
 unfold gapsF at hg
 split at hg
 ·rw [List.mem_singleton] at hg; subst hg; dsimp only; omega
 ·split at hg
  ·rw [List.mem_singleton] at hg; subst hg; dsimp only; omega
  ·split at hg
   ·rename_i k3
    rw [List.mem_singleton] at hg
    subst hg
    dsimp only
    obtain ⟨e1, e2⟩ := h3 k3
    have he : Cs.eastE f.va [x.c] (run f x) = 0 := by
     rcases Int.decEq (Cs.eastE f.va [x.c] (run f x)) 0 with h | h
     ·rw [Cs.comF_err1 h] at e1; exact absurd e1 h
     ·exact h
    rw [Cs.comF_zero he]
    have hr := Cs.comG_range f.va (dx := run f x) [x.c] (-100000) 100000 (by decide) (by decide) (by decide)
    dsimp only
    omega
   ·split at hg
    ·rw [List.mem_singleton] at hg; subst hg; dsimp only; omega
    ·have := along_zero _ _ hg
     omega
theorem alongN (f : Fd) (c : Ca) : ∀ (n : Nat) (s : Int), (gapAlong f c n s).length = n
 | 0, _ => rfl
 | n + 1, s => by rw [gapAlong, List.length_cons, alongN f c n (s + 1)]
theorem gaps_len {f : Fd} {x : Ca} (h : callE f x = 0) : (gapsF f x).length ≤ f.st.length + 1 := by
 have hG : callG f x = 0 := by
  unfold callE at h
  by_cases h0 : fieldE f = 0
  ·rwa [if_neg (by simp [h0])] at h
  ·rw [if_pos h0] at h; exact absurd h h0
 have ht := (callG_zero hG).1
 simp only [there, isIx, Bool.and_eq_true, decide_eq_true_eq] at ht
 unfold gapsF
 split
 ·simp
 ·split
  ·simp
  ·split
   ·simp
   ·split
    ·simp
    ·rw [alongN]
     omega
end Dd
end

section
namespace Dd
open Cs (Wd)
def Wl (w : Bs) : Prop := Wd w ∧ (35 : UInt8) ∉ w ∧ (10 : UInt8) ∉ w
theorem join_mem {c : UInt8} : ∀ {ws : List Bs}, c ∈ Lib.join ws [32] → c = 32 ∨ ∃ w ∈ ws, c ∈ w := by
  have ht : ∀ (r : List Bs), c ∈ Lib.joinTail [32] r → c = 32 ∨ ∃ w ∈ r, c ∈ w := by
    intro r
    induction r with
    | nil => intro h; simp [Lib.joinTail] at h
    | cons y t ih =>
      intro h
      rw [show Lib.joinTail [32] (y :: t) = 32 :: (y ++ Lib.joinTail [32] t) by simp [Lib.joinTail]] at h
      rcases List.mem_cons.1 h with h | h
      · exact .inl h
      · rcases List.mem_append.1 h with h | h
        · exact .inr ⟨y, List.mem_cons_self, h⟩
        · rcases ih h with h | ⟨w, hw, h⟩
          · exact .inl h
          · exact .inr ⟨w, List.mem_cons_of_mem _ hw, h⟩
  intro ws h
  cases ws with
  | nil => simp [Lib.join] at h
  | cons x r =>
    rw [Lib.join_cons] at h
    rcases List.mem_append.1 h with h | h
    · exact .inr ⟨x, List.mem_cons_self, h⟩
    · rcases ht r h with h | ⟨w, hw, h⟩
      · exact .inl h
      · exact .inr ⟨w, List.mem_cons_of_mem _ hw, h⟩
theorem takeWhile_all {p : UInt8 → Bool} {l : Bs} (h : ∀ x ∈ l, p x = true) : l.takeWhile p = l := by
 induction l with
 | nil => rfl
 | cons x r ih => rw [List.takeWhile_cons, if_pos (h x List.mem_cons_self), ih (fun y hy => h y (List.mem_cons_of_mem _ hy))]
theorem fields_said {ws : List Bs} (hne : ws ≠ []) (h : ∀ x ∈ ws, Wl x) : fieldsF (saidF ws) = ws := by
  have hc : codeF (saidF ws) = saidF ws := by
    refine takeWhile_all fun x hx => ?_
    rcases join_mem hx with rfl | ⟨w, hw, hm⟩
    · decide
    · have := (h w hw).2.1
      simp only [decide_eq_true_eq]
      intro e
      rw [e] at hm
      exact this hm
  unfold fieldsF blankF
  rw [hc]
  cases ws with
  | nil => exact absurd rfl hne
  | cons x r =>
    unfold saidF
    rw [Cs.cutF_join x r (fun y hy => (h y hy).1)]
    exact List.filter_eq_self.2 fun y hy => by simpa using (h y hy).1.1
theorem said_line {ws : List Bs} (h : ∀ x ∈ ws, Wl x) : (10 : UInt8) ∉ saidF ws := by
 intro hm
 rcases join_mem hm with e | ⟨w, hw, hm⟩
 ·revert e; decide
 ·exact (h w hw).2.2 hm
theorem name_wl {s : Bs} (h : nameF s = true) : Wl s := by
 unfold nameF at h
 simp only [Bool.and_eq_true, List.all_eq_true] at h
 obtain ⟨⟨_, h1⟩, h2⟩ := h
 have key : ∀ c ∈ s, c.toNat ≠ 32 ∧ c.toNat ≠ 35 ∧ c.toNat ≠ 10 := fun c hc => by
  have := h2 c hc
  unfold nameC isLet isNum at this
  simp only [Bool.or_eq_true, decide_eq_true_eq] at this
  omega
 refine ⟨⟨fun e => ?_, fun hm => (key _ hm).1 rfl⟩, fun hm => (key _ hm).2.1 rfl, fun hm => (key _ hm).2.2 rfl⟩
 rw [e] at h1
 cases h1
theorem itoa_wl (n : Int) : Wl (Lib.itoa n) := by
 have hd : ∀ m : Nat, Lib.decDigits m ≠ [] ∧ ∀ c ∈ Lib.decDigits m, 48 ≤ c.toNat ∧ c.toNat ≤ 57 := fun m => ⟨Cs.digits_ne m, Cs.digits_mem m⟩
 have key : Lib.itoa n ≠ [] ∧ ∀ c ∈ Lib.itoa n, c.toNat = 45 ∨ 48 ≤ c.toNat ∧ c.toNat ≤ 57 := by
  unfold Lib.itoa
  split
  ·refine ⟨by simp, fun c hc => ?_⟩
   rcases List.mem_cons.1 hc with rfl | hc
   ·exact .inl rfl
   ·exact .inr ((hd _).2 c hc)
  ·exact ⟨(hd _).1, fun c hc => .inr ((hd _).2 c hc)⟩
 have k2 : ∀ (b : UInt8), b.toNat = 32 ∨ b.toNat = 35 ∨ b.toNat = 10 → b ∉ Lib.itoa n := fun b hb hm => by
  have := key.2 b hm
  omega
 exact ⟨⟨key.1, k2 32 (.inl rfl)⟩, k2 35 (.inr (.inl rfl)), k2 10 (.inr (.inr rfl))⟩
theorem distA_spec : ∀ (l pre : List Bs), distA pre l = true → l.Nodup ∧ ∀ x ∈ l, x ∉ pre
  | [], pre, _ => ⟨List.nodup_nil, fun x hx => by cases hx⟩
  | x :: r, pre, h => by
    rw [distA] at h
    simp only [Bool.and_eq_true, Bool.not_eq_true', decide_eq_false_iff_not] at h
    obtain ⟨h1, h2⟩ := distA_spec r (pre ++ [x]) h.2
    refine ⟨List.nodup_cons.2 ⟨fun hm => h2 x hm (by simp), h1⟩, fun y hy => ?_⟩
    rcases List.mem_cons.1 hy with rfl | hy
    · exact h.1
    · exact fun hm => h2 y hy (List.mem_append_left _ hm)
theorem idx_of {l : List Bs} (h : dist l = true) {i : Nat} (hi : i < l.length) : idx l l[i] = i := by
 have hn := (distA_spec l [] h).1
 unfold idx
 refine idxP_at hi (by simp) fun j hj => ?_
 simp only [decide_eq_false_iff_not]
 intro e
 exact (List.pairwise_iff_getElem.1 hn j i (by omega) hi hj) e
theorem li_idx {f : Fd} (h : fieldE f = 0) {i : Int} (hi : isIx i f.li.length = true) : idx f.li (liAt f i) = i ∧ nameF (liAt f i) = true := by
 obtain ⟨_, _, _, _, _, _, h7, h8, _⟩ := field_facts h
 simp only [isIx, decide_eq_true_eq] at hi
 obtain ⟨k, rfl⟩ : ∃ k : Nat, i = k := ⟨i.toNat, by omega⟩
 have hk : k < f.li.length := by omega
 have e : liAt f k = f.li[k] := by unfold liAt; simp [hk]
 unfold namesF at h7
 unfold distF at h8
 simp only [Bool.and_eq_true] at h7 h8
 rw [e]
 exact ⟨idx_of h8.1.2 hk, List.all_eq_true.1 h7.1.2 _ (List.getElem_mem hk)⟩
theorem st_idx {f : Fd} (h : fieldE f = 0) {i : Int} (hi : isIx i f.st.length = true) : idx (f.st.map (·.1)) (stAt f i) = i ∧ nameF (stAt f i) = true := by
 obtain ⟨_, _, _, _, _, _, h7, h8, _⟩ := field_facts h
 simp only [isIx, decide_eq_true_eq] at hi
 obtain ⟨k, rfl⟩ : ∃ k : Nat, i = k := ⟨i.toNat, by omega⟩
 have hk : k < f.st.length := by omega
 have hk' : k < (f.st.map (·.1)).length := by simpa using hk
 have e : stAt f k = (f.st.map (·.1))[k] := by unfold stAt; simp [hk]
 unfold namesF at h7
 unfold distF at h8
 simp only [Bool.and_eq_true] at h7 h8
 rw [e]
 exact ⟨idx_of h8.1.1 hk', List.all_eq_true.1 h7.1.1 _ (List.getElem_mem hk')⟩
end Dd
end

section
namespace Dd
open Cs (Wd)
theorem wl_of {w : Bs} (h : (w ≠ [] ∧ (32 : UInt8) ∉ w) ∧ (35 : UInt8) ∉ w ∧ (10 : UInt8) ∉ w) : Wl w := h
end Dd
end
end Go.Proofs.YtccikcpcfdjobaaGreatDoor
