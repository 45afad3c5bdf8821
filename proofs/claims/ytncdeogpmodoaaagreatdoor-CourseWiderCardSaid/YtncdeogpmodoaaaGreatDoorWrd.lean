/-
  Lengths, areas and bearings as words, plainly: what is written, what is read; each reads what the other wrote.
-/
import Derived.Test.YtncdeogpmodoaaaGreatDoorPure
import Derived.Lib.Split
import Derived.Lib.Join
import Derived.Lib.AtoiAllCases
import Derived.Lib.ItoaMem
set_option linter.unusedVariables false
set_option linter.unusedSimpArgs false
namespace Go.Proofs.YtncdeogpmodoaaaGreatDoor
namespace Cs
abbrev Bs := List UInt8

/-- A unit: the word for one, the word for many, its size. -/
structure Un where
  one : Bs
  many : Bs
  size : Int
def uChain : Un := ⟨[99, 104, 97, 105, 110], [99, 104, 97, 105, 110, 115], 100⟩
def uPole : Un := ⟨[112, 111, 108, 101], [112, 111, 108, 101, 115], 25⟩
def uLink : Un := ⟨[108, 105, 110, 107], [108, 105, 110, 107, 115], 1⟩
def uAcre : Un := ⟨[97, 99, 114, 101], [97, 99, 114, 101, 115], 100000⟩
def uRood : Un := ⟨[114, 111, 111, 100], [114, 111, 111, 100, 115], 25000⟩
def uPerch : Un := ⟨[112, 101, 114, 99, 104], [112, 101, 114, 99, 104, 101, 115], 625⟩
def lenU : List Un := [uChain, uPole, uLink]
def areU : List Un := [uAcre, uRood, uPerch, uLink]

/-- The words for q of a unit. -/
def pairF (u : Un) (q : Int) : List Bs := if q = 0 then [] else if q = 1 then [[49], u.one] else [Lib.itoa q, u.many]
def wordsF : List Un → Int → List Bs
  | [], _ => []
  | u :: r, n => pairF u (n / u.size) ++ wordsF r (n % u.size)
def restF : List Un → Int → Int
  | [], n => n
  | u :: r, n => restF r (n % u.size)
theorem wordsF_snoc (us : List Un) (u : Un) (n : Int) : wordsF (us ++ [u]) n = wordsF us n ++ pairF u (restF us n / u.size) := by
  induction us generalizing n with
  | nil => simp [wordsF, restF]
  | cons v r ih => simp [wordsF, restF, ih, List.append_assoc]
theorem restF_snoc (us : List Un) (u : Un) (n : Int) : restF (us ++ [u]) n = restF us n % u.size := by
  induction us generalizing n with
  | nil => simp [restF]
  | cons v r ih => simp [restF, ih]

/-- '0 links'. -/
def zeroL : Bs := [48, 32, 108, 105, 110, 107, 115]
def writeF (us : List Un) (most n : Int) : Bs := if 0 ≤ n ∧ n ≤ most then (if n = 0 then zeroL else Lib.join (wordsF us n) [32]) else []
def lenF (n : Int) : Bs := writeF lenU 1000000 n
def acrF (n : Int) : Bs := writeF areU 1000000000000 n

/-! Words: none empty, none with a blank. -/
def Wd (w : Bs) : Prop := w ≠ [] ∧ (32 : UInt8) ∉ w
theorem digits_mem (u : Nat) : ∀ c ∈ Lib.decDigits u, 48 ≤ c.toNat ∧ c.toNat ≤ 57 := by
  induction u using Nat.strongRecOn with
  | _ u ih =>
    rw [Lib.decDigits]
    split
    · intro c hc
      rw [List.mem_singleton.1 hc]
      have : (UInt8.ofNat (48 + u)).toNat = 48 + u := by simp; omega
      omega
    · intro c hc
      rcases List.mem_append.1 hc with h | h
      · exact ih (u / 10) (by omega) c h
      · rw [List.mem_singleton.1 h]
        have : (UInt8.ofNat (48 + u % 10)).toNat = 48 + u % 10 := by simp; omega
        omega
theorem digits_ne (u : Nat) : Lib.decDigits u ≠ [] := by
  intro h
  have := congrArg List.length h
  rw [Lib.decDigits_length] at this
  have := Lib.nDigits_pos u
  simp at *
  omega
theorem itoa_nn {q : Int} (h : 0 ≤ q) : Lib.itoa q = Lib.decDigits q.toNat := by
  obtain ⟨m, rfl⟩ : ∃ m : Nat, q = m := ⟨q.toNat, by omega⟩
  rw [Lib.itoa_nonneg]
  simp
theorem itoa_wd {q : Int} (h : 0 ≤ q) : Wd (Lib.itoa q) := by
  rw [itoa_nn h]
  refine ⟨digits_ne _, fun hm => ?_⟩
  have := digits_mem _ _ hm
  simp at this
theorem pair_wd {u : Un} (h1 : Wd u.one) (h2 : Wd u.many) {q : Int} (h : 0 ≤ q) : ∀ w ∈ pairF u q, Wd w := by
  unfold pairF
  intro w hw
  split at hw
  · cases hw
  · split at hw
    · simp only [List.mem_cons, List.not_mem_nil, or_false] at hw
      rcases hw with rfl | rfl
      · exact ⟨by simp, by decide⟩
      · exact h1
    · simp only [List.mem_cons, List.not_mem_nil, or_false] at hw
      rcases hw with rfl | rfl
      · exact itoa_wd h
      · exact h2
theorem words_wd {us : List Un} (h : ∀ u ∈ us, Wd u.one ∧ Wd u.many ∧ 0 < u.size) {n : Int} (hn : 0 ≤ n) : ∀ w ∈ wordsF us n, Wd w := by
  induction us generalizing n with
  | nil => intro w hw; cases hw
  | cons u r ih =>
    intro w hw
    obtain ⟨h1, h2, h3⟩ := h u List.mem_cons_self
    rcases List.mem_append.1 hw with hw | hw
    · exact pair_wd h1 h2 (Int.ediv_nonneg hn (by omega)) w hw
    · exact ih (fun v hv => h v (List.mem_cons_of_mem _ hv)) (Int.emod_nonneg _ (by omega)) w hw
theorem pair_len (u : Un) (q : Int) : (pairF u q).length ≤ 2 ∧ (pairF u q).length % 2 = 0 := by
  unfold pairF
  split
  · simp
  · split <;> simp
theorem words_len (us : List Un) (n : Int) : (wordsF us n).length ≤ 2 * us.length ∧ (wordsF us n).length % 2 = 0 := by
  induction us generalizing n with
  | nil => simp [wordsF]
  | cons u r ih =>
    have h1 := pair_len u (n / u.size)
    have h2 := ih (n % u.size)
    simp only [wordsF, List.length_append, List.length_cons]
    omega
theorem lenU_ok : ∀ u ∈ lenU, Wd u.one ∧ Wd u.many ∧ 0 < u.size := by
  intro u hu
  simp only [lenU, List.mem_cons, List.not_mem_nil, or_false] at hu
  rcases hu with rfl | rfl | rfl <;> simp [Wd, uChain, uPole, uLink]
theorem areU_ok : ∀ u ∈ areU, Wd u.one ∧ Wd u.many ∧ 0 < u.size := by
  intro u hu
  simp only [areU, List.mem_cons, List.not_mem_nil, or_false] at hu
  rcases hu with rfl | rfl | rfl | rfl <;> simp [Wd, uAcre, uRood, uPerch, uLink]

/-! Cutting at blanks. -/
/-- What the reference's words returns: all pieces between blanks. -/
def cutF : Bs → List Bs
  | [] => [[]]
  | c :: r => if c = 32 then [] :: cutF r else match cutF r with | [] => [[c]] | x :: t => (c :: x) :: t
theorem cutF_ne (s : Bs) : cutF s ≠ [] := by
  cases s with
  | nil => simp [cutF]
  | cons c r =>
    unfold cutF
    split
    · simp
    · split <;> simp
theorem cutF_word {w : Bs} (h : (32 : UInt8) ∉ w) : cutF w = [w] := by
  induction w with
  | nil => rfl
  | cons c r ih =>
    have h1 : c ≠ 32 := fun e => h (by rw [e]; exact List.mem_cons_self)
    rw [cutF, if_neg h1, ih (fun e => h (List.mem_cons_of_mem _ e))]
theorem cutF_cons {w : Bs} (h : (32 : UInt8) ∉ w) (r : Bs) : cutF (w ++ 32 :: r) = w :: cutF r := by
  induction w with
  | nil => simp [cutF]
  | cons c t ih =>
    have h1 : c ≠ 32 := fun e => h (by rw [e]; exact List.mem_cons_self)
    rw [List.cons_append, cutF, if_neg h1, ih (fun e => h (List.mem_cons_of_mem _ e))]
theorem cutF_join (w : Bs) (r : List Bs) (h : ∀ x ∈ w :: r, Wd x) : cutF (Lib.join (w :: r) [32]) = w :: r := by
  rw [Lib.join_cons]
  induction r generalizing w with
  | nil => simpa [Lib.joinTail] using cutF_word (h w List.mem_cons_self).2
  | cons y t ih =>
    have := ih y (fun x hx => h x (List.mem_cons_of_mem _ hx))
    rw [show Lib.joinTail [32] (y :: t) = 32 :: (y ++ Lib.joinTail [32] t) by simp [Lib.joinTail], cutF_cons (h w List.mem_cons_self).2, this]

theorem index_word {w : Bs} (h : (32 : UInt8) ∉ w) : Lib.index w [32] = -1 := by
  induction w with
  | nil => rfl
  | cons c r ih =>
    have h1 : c ≠ 32 := fun e => h (by rw [e]; exact List.mem_cons_self)
    rw [Lib.index, ih (fun e => h (List.mem_cons_of_mem _ e))]
    simp [List.isPrefixOf, Ne.symm h1]
theorem index_at {w : Bs} (h : (32 : UInt8) ∉ w) (r : Bs) : Lib.index (w ++ 32 :: r) [32] = w.length := by
  induction w with
  | nil => simp [Lib.index, List.isPrefixOf]
  | cons c t ih =>
    have h1 : c ≠ 32 := fun e => h (by rw [e]; exact List.mem_cons_self)
    rw [List.cons_append, Lib.index, ih (fun e => h (List.mem_cons_of_mem _ e))]
    simp [List.isPrefixOf, Ne.symm h1]
theorem splitK_join (k : Nat) (w : Bs) (r : List Bs) (h : ∀ x ∈ w :: r, Wd x) (hk : r.length ≤ k) : Lib.splitK [32] 0 k (Lib.join (w :: r) [32]) = w :: r := by
  rw [Lib.join_cons]
  induction r generalizing w k with
  | nil =>
    have hi := index_word (h w List.mem_cons_self).2
    simp only [Lib.joinTail, List.map_nil, List.flatten_nil, List.append_nil]
    cases k with
    | zero => rfl
    | succ k => rw [Lib.splitK, if_pos (by rw [hi]; rfl)]
  | cons y t ih =>
    obtain ⟨k, rfl⟩ : ∃ j, k = j + 1 := ⟨k - 1, by simp at hk; omega⟩
    have hj : Lib.joinTail [32] (y :: t) = 32 :: (y ++ Lib.joinTail [32] t) := by simp [Lib.joinTail]
    have hi := index_at (h w List.mem_cons_self).2 (y ++ Lib.joinTail [32] t)
    rw [hj, Lib.splitK, if_neg (by rw [hi]; simp), hi]
    have h3 : (w ++ 32 :: (y ++ Lib.joinTail [32] t)).drop (((w.length : Int)).toNat + [(32 : UInt8)].length) = y ++ Lib.joinTail [32] t := by
      rw [Int.toNat_natCast, ← List.drop_drop, List.drop_left]
      simp
    rw [h3, ih k y (fun x hx => h x (List.mem_cons_of_mem _ hx)) (by simp at hk; omega)]
    simp

/-! What a word says as a number. -/
def numF (w : Bs) : Option Int := match Lib.atoiAll w with | .ok v => some v | _ => none
theorem parseU_digits (u acc : Nat) (r : Bs) (h : acc * 10 ^ (Lib.decDigits u).length + u < 18446744073709551616) :
    Lib.parseUint10 acc (Lib.decDigits u ++ r) = Lib.parseUint10 (acc * 10 ^ (Lib.decDigits u).length + u) r := by
  induction u using Nat.strongRecOn generalizing r with
  | _ u ih =>
    rw [Lib.decDigits] at h ⊢
    split at h
    · rename_i hu
      simp only [dif_pos hu, List.length_singleton, Nat.pow_one, List.singleton_append] at h ⊢
      have hc : (UInt8.ofNat (48 + u)).toNat = 48 + u := by simp; omega
      rw [Lib.parseUint10, hc, if_pos (by omega), if_neg (by omega), if_neg (by omega), show 48 + u - 48 = u by omega]
    · rename_i hu
      simp only [dif_neg hu, List.length_append, List.length_singleton, Nat.pow_succ, List.append_assoc, List.singleton_append] at h ⊢
      have hc : (UInt8.ofNat (48 + u % 10)).toNat = 48 + u % 10 := by simp; omega
      obtain ⟨B, hB⟩ : ∃ B, acc * 10 ^ (Lib.decDigits (u / 10)).length = B := ⟨_, rfl⟩
      rw [← Nat.mul_assoc, hB] at h ⊢
      have h2 : acc * 10 ^ (Lib.decDigits (u / 10)).length + u / 10 < 18446744073709551616 := by rw [hB]; omega
      rw [ih (u / 10) (by omega) _ h2, hB, Lib.parseUint10, hc, if_pos (by omega), if_neg (by omega), if_neg (by omega)]
      congr 1
      omega
theorem numF_itoa {q : Int} (h0 : 0 ≤ q) (h1 : q ≤ 9223372036854775807) : numF (Lib.itoa q) = some q := by
  rw [itoa_nn h0]
  obtain ⟨m, rfl⟩ : ∃ m : Nat, q = m := ⟨q.toNat, by omega⟩
  rw [Int.toNat_natCast]
  have hm := digits_mem m
  have hn := digits_ne m
  have hp := parseU_digits m 0 [] (by omega)
  rw [List.append_nil] at hp
  have hq : Lib.parseMag (Lib.decDigits m) = .ok m := by
    rw [Lib.parseMag, if_neg hn, hp]
    simp [Lib.parseUint10]
  unfold numF
  obtain ⟨c, r, hcr⟩ : ∃ c r, Lib.decDigits m = c :: r := by
    cases hd : Lib.decDigits m with
    | nil => exact absurd hd hn
    | cons c r => exact ⟨c, r, rfl⟩
  rw [hcr] at hm hq ⊢
  have := hm c List.mem_cons_self
  rw [Lib.atoiAll_plain c r (by omega) (by omega), hq, Lib.signless, if_neg (by omega)]

/-- The size of the unit that a word names. -/
def sizeF : List Un → Bs → Option Int
  | [], _ => none
  | u :: r, w => if w = u.one ∨ w = u.many then some u.size else sizeF r w
def wr (x : Int) : Int := if -9223372036854775808 ≤ x ∧ x ≤ 9223372036854775807 then x else (x + 9223372036854775808) % 18446744073709551616 - 9223372036854775808
theorem wr_in {x : Int} (h0 : -9223372036854775808 ≤ x) (h1 : x ≤ 9223372036854775807) : wr x = x := if_pos ⟨h0, h1⟩

/-- What the program adds up: pairs of a number and a unit; a last odd word is passed over. -/
def sumF (us : List Un) : Int → List Bs → Option Int
  | acc, a :: b :: r => match numF a, sizeF us b with
    | some k, some z => sumF us (wr (acc + wr (k * z))) r
    | _, _ => none
  | acc, _ => some acc
theorem sumF_nil (us : List Un) (acc : Int) : sumF us acc [] = some acc := by simp [sumF]
theorem sumF_pair (us : List Un) (u : Un) (hs1 : sizeF us u.one = some u.size) (hs2 : sizeF us u.many = some u.size) (acc q : Int) (r : List Bs) (h0 : 0 ≤ q) (ha : 0 ≤ acc) (hu : 0 < u.size) (hm : acc + q * u.size ≤ 9223372036854775807) :
    sumF us acc (pairF u q ++ r) = sumF us (acc + q * u.size) r := by
  have hq : q ≤ q * u.size := by
    have := Int.mul_le_mul_of_nonneg_left (show 1 ≤ u.size by omega) h0
    omega
  have h0' : 0 ≤ q * u.size := by omega
  unfold pairF
  split
  · rename_i h; simp [h]
  · split
    · rename_i h
      subst h
      have : numF [49] = some 1 := by decide
      simp only [List.cons_append, List.nil_append, sumF, this, hs1]
      rw [wr_in (x := 1 * u.size) (by omega) (by omega), wr_in (by omega) (by omega)]
    · simp only [List.cons_append, List.nil_append, sumF, numF_itoa h0 (show q ≤ 9223372036854775807 by omega), hs2]
      rw [wr_in (x := q * u.size) (by omega) (by omega), wr_in (by omega) (by omega)]
theorem sum_len {n : Int} (h0 : 0 ≤ n) (h1 : n ≤ 1000000) : sumF lenU 0 (wordsF lenU n) = some n := by
  have e : wordsF lenU n = pairF uChain (n / 100) ++ (pairF uPole (n % 100 / 25) ++ (pairF uLink (n % 100 % 25 / 1) ++ [])) := rfl
  have a1 : sizeF lenU uChain.one = some 100 ∧ sizeF lenU uChain.many = some 100 := by decide
  have a2 : sizeF lenU uPole.one = some 25 ∧ sizeF lenU uPole.many = some 25 := by decide
  have a3 : sizeF lenU uLink.one = some 1 ∧ sizeF lenU uLink.many = some 1 := by decide
  have s1 : uChain.size = 100 := rfl
  have s2 : uPole.size = 25 := rfl
  have s3 : uLink.size = 1 := rfl
  rw [e, sumF_pair lenU uChain a1.1 a1.2 _ _ _ (by omega) (by omega) (by decide) (by rw [s1]; omega),
    sumF_pair lenU uPole a2.1 a2.2 _ _ _ (by omega) (by rw [s1]; omega) (by decide) (by rw [s1, s2]; omega),
    sumF_pair lenU uLink a3.1 a3.2 _ _ _ (by omega) (by rw [s1, s2]; omega) (by decide) (by rw [s1, s2, s3]; omega), s1, s2, s3, sumF_nil]
  congr 1
  omega
theorem sum_are {n : Int} (h0 : 0 ≤ n) (h1 : n ≤ 1000000000000) : sumF areU 0 (wordsF areU n) = some n := by
  have e : wordsF areU n = pairF uAcre (n / 100000) ++ (pairF uRood (n % 100000 / 25000) ++ (pairF uPerch (n % 100000 % 25000 / 625) ++ (pairF uLink (n % 100000 % 25000 % 625 / 1) ++ []))) := rfl
  have a1 : sizeF areU uAcre.one = some 100000 ∧ sizeF areU uAcre.many = some 100000 := by decide
  have a2 : sizeF areU uRood.one = some 25000 ∧ sizeF areU uRood.many = some 25000 := by decide
  have a3 : sizeF areU uPerch.one = some 625 ∧ sizeF areU uPerch.many = some 625 := by decide
  have a4 : sizeF areU uLink.one = some 1 ∧ sizeF areU uLink.many = some 1 := by decide
  have s1 : uAcre.size = 100000 := rfl
  have s2 : uRood.size = 25000 := rfl
  have s3 : uPerch.size = 625 := rfl
  have s4 : uLink.size = 1 := rfl
  rw [e, sumF_pair areU uAcre a1.1 a1.2 _ _ _ (by omega) (by omega) (by decide) (by rw [s1]; omega),
    sumF_pair areU uRood a2.1 a2.2 _ _ _ (by omega) (by rw [s1]; omega) (by decide) (by rw [s1, s2]; omega),
    sumF_pair areU uPerch a3.1 a3.2 _ _ _ (by omega) (by rw [s1, s2]; omega) (by decide) (by rw [s1, s2, s3]; omega),
    sumF_pair areU uLink a4.1 a4.2 _ _ _ (by omega) (by rw [s1, s2, s3]; omega) (by decide) (by rw [s1, s2, s3, s4]; omega), s1, s2, s3, s4, sumF_nil]
  congr 1
  omega

/-- What the program reads: cut at blanks into eight parts at most, added up, and written again. -/
def readF (say : List Bs → Option Int) (write : Int → Bs) (s : Bs) : Int × Int :=
  match say (Lib.splitN s [32] 8) with
  | none => (0, 4)
  | some n => if write n = s then (n, 0) else (0, 4)
theorem words_pos {us : List Un} {n : Int} (h : sumF us 0 (wordsF us n) = some n) (hn : n ≠ 0) : wordsF us n ≠ [] := by
  intro e
  rw [e, sumF_nil] at h
  simp at h
  omega
theorem splitN_eq (s : Bs) (k : Nat) : Lib.splitN s [32] k = Lib.splitK [32] 0 (min k (s.length + 1) - 1) s := rfl
theorem joinTail_len (r : List Bs) : r.length ≤ (Lib.joinTail [32] r).length := by
  induction r with
  | nil => simp
  | cons y t ih =>
    rw [show Lib.joinTail [32] (y :: t) = 32 :: (y ++ Lib.joinTail [32] t) by simp [Lib.joinTail]]
    simp only [List.length_cons, List.length_append]
    omega
theorem splitN_join (w : Bs) (r : List Bs) (h : ∀ x ∈ w :: r, Wd x) (hl : r.length ≤ 7) : Lib.splitN (Lib.join (w :: r) [32]) [32] 8 = w :: r := by
  rw [splitN_eq]
  refine splitK_join _ w r h ?_
  have h1 := joinTail_len r
  rw [Lib.join_cons, List.length_append]
  omega
/-- What stands in the words of a number is that number. -/
theorem say_write {us : List Un} {most n : Int} (hus : ∀ u ∈ us, Wd u.one ∧ Wd u.many ∧ 0 < u.size) (hlink : sizeF us uLink.many = some 1) (hl : us.length ≤ 4) (h0 : 0 ≤ n) (h1 : n ≤ most) (hsum : sumF us 0 (wordsF us n) = some n) :
    sumF us 0 (Lib.splitN (writeF us most n) [32] 8) = some n := by
  unfold writeF
  rw [if_pos ⟨h0, h1⟩]
  by_cases hn : n = 0
  · rw [if_pos hn]
    have : Lib.splitN zeroL [32] 8 = [[48], [108, 105, 110, 107, 115]] := by decide
    rw [this]
    have h48 : numF [48] = some 0 := by decide
    have hl2 : sizeF us [108, 105, 110, 107, 115] = some 1 := hlink
    simp only [sumF, h48, hl2]
    rw [hn]
    rfl
  · rw [if_neg hn]
    have hw := words_wd hus h0
    have hlen := (words_len us n).1
    cases hc : wordsF us n with
    | nil => exact absurd hc (words_pos hsum hn)
    | cons w r =>
      rw [hc] at hw hlen hsum
      simp only [List.length_cons] at hlen
      rw [splitN_join w r hw (by omega), hsum]
/-- Read: the number that is written so, if there is one. -/
theorem readF_spec {us : List Un} {most : Int} (hus : ∀ u ∈ us, Wd u.one ∧ Wd u.many ∧ 0 < u.size) (hlink : sizeF us uLink.many = some 1) (hl : us.length ≤ 4) (hsum : ∀ n, 0 ≤ n → n ≤ most → sumF us 0 (wordsF us n) = some n) (hm : 0 ≤ most) (s : Bs) :
    (∃ n, 0 ≤ n ∧ n ≤ most ∧ writeF us most n = s ∧ readF (sumF us 0) (writeF us most) s = (n, 0)) ∨ ((∀ n, 0 ≤ n → n ≤ most → writeF us most n ≠ s) ∧ readF (sumF us 0) (writeF us most) s = (0, 4)) := by
  by_cases h : ∃ n, 0 ≤ n ∧ n ≤ most ∧ writeF us most n = s
  · obtain ⟨n, h0, h1, h2⟩ := h
    refine .inl ⟨n, h0, h1, h2, ?_⟩
    have := say_write hus hlink hl h0 h1 (hsum n h0 h1)
    rw [h2] at this
    rw [readF, this]
    simp [h2]
  · refine .inr ⟨fun n h0 h1 h2 => h ⟨n, h0, h1, h2⟩, ?_⟩
    unfold readF
    split
    · rfl
    · rename_i n hn
      split
      · rename_i hw
        exfalso
        by_cases hr : 0 ≤ n ∧ n ≤ most
        · exact h ⟨n, hr.1, hr.2, hw⟩
        · unfold writeF at hw
          rw [if_neg hr] at hw
          subst hw
          have e : Lib.splitN [] [32] 8 = [[]] := by decide
          rw [e, sumF] at hn
          · simp only [Option.some.injEq] at hn
            omega
          · simp
      · rfl

/-! The reference reads numbers of at most twelve digits. -/
def rdigF : Int → Bs → Option Int
  | n, [] => some n
  | n, c :: r => if 48 ≤ c.toNat ∧ c.toNat ≤ 57 then rdigF (10 * n + c.toNat - 48) r else none
def rnumF (w : Bs) : Option Int := if w.length < 1 ∨ 12 < w.length then none else rdigF 0 w
/-- The last unit of a list that a word names. -/
def rsizeF : Int → List Un → Bs → Int
  | z, [], _ => z
  | z, u :: r, w => rsizeF (if w = u.many ∨ w = u.one then u.size else z) r w
def rsumF (us : List Un) : Int → List Bs → Option Int
  | acc, a :: b :: r => match rnumF a with
    | none => none
    | some k => if rsizeF 0 us b = 0 ∨ 1000000000000 / rsizeF 0 us b < k then none else rsumF us (acc + k * rsizeF 0 us b) r
  | acc, _ => some acc
def rcntF (us : List Un) (s : Bs) : Option Int := if (cutF s).length % 2 ≠ 0 ∨ 8 < (cutF s).length then none else rsumF us 0 (cutF s)
def rreadF (us : List Un) (most : Int) (s : Bs) : Int × Int :=
  match rcntF us s with
  | none => (0, 4)
  | some n => if writeF us most n = s then (n, 0) else (0, 4)
theorem rdig_digits (u : Nat) (acc : Int) (r : Bs) : rdigF acc (Lib.decDigits u ++ r) = rdigF (acc * 10 ^ (Lib.decDigits u).length + u) r := by
  induction u using Nat.strongRecOn generalizing r with
  | _ u ih =>
    rw [Lib.decDigits]
    split
    · rename_i hu
      have hc : (UInt8.ofNat (48 + u)).toNat = 48 + u := by simp; omega
      simp only [List.singleton_append, rdigF, hc, List.length_singleton]
      rw [if_pos (by omega)]
      congr 1
      have : (10 : Int) ^ 1 = 10 := by decide
      rw [this]
      omega
    · rename_i hu
      have hc : (UInt8.ofNat (48 + u % 10)).toNat = 48 + u % 10 := by simp; omega
      simp only [List.append_assoc, List.singleton_append, List.length_append, List.length_singleton]
      rw [ih (u / 10) (by omega), rdigF, hc, if_pos (by omega)]
      congr 1
      rw [Int.pow_succ, ← Int.mul_assoc]
      omega
theorem nDigits_le {u : Nat} {k : Nat} (hk : 1 ≤ k) (h : u < 10 ^ k) : Lib.nDigits u ≤ k := by
  induction k generalizing u with
  | zero => omega
  | succ k ih =>
    by_cases hu : u < 10
    · rw [Lib.nDigits_small hu]; omega
    · rw [Lib.nDigits_big hu]
      by_cases hk0 : k = 0
      · subst hk0; simp at h; omega
      · have := ih (u := u / 10) (by omega) (by rw [Nat.pow_succ] at h; omega)
        omega
theorem rnumF_itoa {q : Int} (h0 : 0 ≤ q) (h1 : q < 1000000000000) : rnumF (Lib.itoa q) = some q := by
  rw [itoa_nn h0]
  obtain ⟨m, rfl⟩ : ∃ m : Nat, q = m := ⟨q.toNat, by omega⟩
  rw [Int.toNat_natCast, rnumF, Lib.decDigits_length]
  have h2 : Lib.nDigits m ≤ 12 := nDigits_le (by decide) (by simp; omega)
  have h3 := Lib.nDigits_pos m
  rw [if_neg (by omega)]
  have := rdig_digits m 0 []
  rw [List.append_nil] at this
  rw [this, rdigF]
  simp
theorem rsumF_nil (us : List Un) (acc : Int) : rsumF us acc [] = some acc := by simp [rsumF]
theorem rsum_pair (us : List Un) (u : Un) (hs1 : rsizeF 0 us u.one = u.size) (hs2 : rsizeF 0 us u.many = u.size) (acc q : Int) (r : List Bs) (h0 : 0 ≤ q) (hu : 0 < u.size) (hq : q < 1000000000000) (hm : q ≤ 1000000000000 / u.size) :
    rsumF us acc (pairF u q ++ r) = rsumF us (acc + q * u.size) r := by
  unfold pairF
  split
  · rename_i h; simp [h]
  · split
    · rename_i h
      subst h
      have : rnumF [49] = some 1 := by decide
      simp only [List.cons_append, List.nil_append, rsumF, this, hs1]
      rw [if_neg (by omega)]
    · simp only [List.cons_append, List.nil_append, rsumF, rnumF_itoa h0 hq, hs2]
      rw [if_neg (by omega)]
theorem rsum_len {n : Int} (h0 : 0 ≤ n) (h1 : n ≤ 1000000) : rsumF lenU 0 (wordsF lenU n) = some n := by
  have e : wordsF lenU n = pairF uChain (n / 100) ++ (pairF uPole (n % 100 / 25) ++ (pairF uLink (n % 100 % 25 / 1) ++ [])) := rfl
  have a1 : rsizeF 0 lenU uChain.one = 100 ∧ rsizeF 0 lenU uChain.many = 100 := by decide
  have a2 : rsizeF 0 lenU uPole.one = 25 ∧ rsizeF 0 lenU uPole.many = 25 := by decide
  have a3 : rsizeF 0 lenU uLink.one = 1 ∧ rsizeF 0 lenU uLink.many = 1 := by decide
  have s1 : uChain.size = 100 := rfl
  have s2 : uPole.size = 25 := rfl
  have s3 : uLink.size = 1 := rfl
  rw [e, rsum_pair lenU uChain a1.1 a1.2 _ _ _ (by omega) (by decide) (by omega) (by rw [s1]; omega),
    rsum_pair lenU uPole a2.1 a2.2 _ _ _ (by omega) (by decide) (by omega) (by rw [s2]; omega),
    rsum_pair lenU uLink a3.1 a3.2 _ _ _ (by omega) (by decide) (by omega) (by rw [s3]; omega), s1, s2, s3, rsumF_nil]
  congr 1
  omega
theorem rsum_are {n : Int} (h0 : 0 ≤ n) (h1 : n ≤ 1000000000000) : rsumF areU 0 (wordsF areU n) = some n := by
  have e : wordsF areU n = pairF uAcre (n / 100000) ++ (pairF uRood (n % 100000 / 25000) ++ (pairF uPerch (n % 100000 % 25000 / 625) ++ (pairF uLink (n % 100000 % 25000 % 625 / 1) ++ []))) := rfl
  have a1 : rsizeF 0 areU uAcre.one = 100000 ∧ rsizeF 0 areU uAcre.many = 100000 := by decide
  have a2 : rsizeF 0 areU uRood.one = 25000 ∧ rsizeF 0 areU uRood.many = 25000 := by decide
  have a3 : rsizeF 0 areU uPerch.one = 625 ∧ rsizeF 0 areU uPerch.many = 625 := by decide
  have a4 : rsizeF 0 areU uLink.one = 1 ∧ rsizeF 0 areU uLink.many = 1 := by decide
  have s1 : uAcre.size = 100000 := rfl
  have s2 : uRood.size = 25000 := rfl
  have s3 : uPerch.size = 625 := rfl
  have s4 : uLink.size = 1 := rfl
  rw [e, rsum_pair areU uAcre a1.1 a1.2 _ _ _ (by omega) (by decide) (by omega) (by rw [s1]; omega),
    rsum_pair areU uRood a2.1 a2.2 _ _ _ (by omega) (by decide) (by omega) (by rw [s2]; omega),
    rsum_pair areU uPerch a3.1 a3.2 _ _ _ (by omega) (by decide) (by omega) (by rw [s3]; omega),
    rsum_pair areU uLink a4.1 a4.2 _ _ _ (by omega) (by decide) (by omega) (by rw [s4]; omega), s1, s2, s3, s4, rsumF_nil]
  congr 1
  omega
theorem rcnt_write {us : List Un} {most n : Int} (hus : ∀ u ∈ us, Wd u.one ∧ Wd u.many ∧ 0 < u.size) (hlink : rsizeF 0 us uLink.many = 1) (hl : us.length ≤ 4) (h0 : 0 ≤ n) (h1 : n ≤ most) (hsum : sumF us 0 (wordsF us n) = some n) (hrsum : rsumF us 0 (wordsF us n) = some n) :
    rcntF us (writeF us most n) = some n := by
  unfold writeF
  rw [if_pos ⟨h0, h1⟩]
  by_cases hn : n = 0
  · rw [if_pos hn]
    have : cutF zeroL = [[48], [108, 105, 110, 107, 115]] := by decide
    rw [rcntF, this, if_neg (by decide)]
    have h48 : rnumF [48] = some 0 := by decide
    have hl2 : rsizeF 0 us [108, 105, 110, 107, 115] = 1 := hlink
    simp only [rsumF, h48, hl2]
    rw [hn]
    rfl
  · rw [if_neg hn]
    have hw := words_wd hus h0
    have hlen := words_len us n
    cases hc : wordsF us n with
    | nil => exact absurd hc (words_pos hsum hn)
    | cons w r =>
      rw [hc] at hw hlen hrsum
      rw [rcntF, cutF_join w r hw, if_neg (by omega), hrsum]
theorem rread_eq {us : List Un} {most : Int} (hus : ∀ u ∈ us, Wd u.one ∧ Wd u.many ∧ 0 < u.size) (hlink : sizeF us uLink.many = some 1) (hlink2 : rsizeF 0 us uLink.many = 1) (hl : us.length ≤ 4) (hsum : ∀ n, 0 ≤ n → n ≤ most → sumF us 0 (wordsF us n) = some n) (hrsum : ∀ n, 0 ≤ n → n ≤ most → rsumF us 0 (wordsF us n) = some n)
    (hm : 0 ≤ most) (s : Bs) : rreadF us most s = readF (sumF us 0) (writeF us most) s := by
  rcases readF_spec hus hlink hl hsum hm s with ⟨n, h0, h1, h2, h3⟩ | ⟨h1, h2⟩
  · rw [h3, rreadF, ← h2, rcnt_write hus hlink2 hl h0 h1 (hsum n h0 h1) (hrsum n h0 h1)]
    simp
  · rw [h2, rreadF]
    split
    · rfl
    · rename_i n hn
      split
      · rename_i hw
        exfalso
        by_cases hr : 0 ≤ n ∧ n ≤ most
        · exact h1 n hr.1 hr.2 hw
        · unfold writeF at hw
          rw [if_neg hr] at hw
          subst hw
          unfold rcntF at hn
          rw [if_pos (by decide)] at hn
          cases hn
      · rfl

def lnkF (s : Bs) : Int × Int := readF (sumF lenU 0) lenF s
def areF (s : Bs) : Int × Int := readF (sumF areU 0) acrF s
theorem rlnk_eq (s : Bs) : rreadF lenU 1000000 s = lnkF s := rread_eq lenU_ok (by decide) (by decide) (by decide) (fun n => sum_len) (fun n => rsum_len) (by decide) s
theorem rare_eq (s : Bs) : rreadF areU 1000000000000 s = areF s := rread_eq areU_ok (by decide) (by decide) (by decide) (fun n => sum_are) (fun n => rsum_are) (by decide) s

end Cs
end Go.Proofs.YtncdeogpmodoaaaGreatDoor
