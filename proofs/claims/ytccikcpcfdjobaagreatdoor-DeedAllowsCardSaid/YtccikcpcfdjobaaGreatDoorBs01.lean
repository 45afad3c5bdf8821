/-
  What the claim needs: contracts.
-/
import Derived.Lib.FieldsP
import Derived.Lib.DecodeN
import Derived.Test.YtccikcpcfdjobaaGreatDoorBs00
set_option linter.unusedVariables false
set_option linter.unusedSimpArgs false
set_option maxHeartbeats 8000000
set_option maxRecDepth 100000
namespace Go.Proofs.YtccikcpcfdjobaaGreatDoor
section
namespace Dd
abbrev Bs := Cs.Bs
def isLet (c : UInt8) : Bool := decide (97 <= c.toNat /\ c.toNat <= 122)
def isNum (c : UInt8) : Bool := decide (48 <= c.toNat /\ c.toNat <= 57)
def nameC (c : UInt8) : Bool := isLet c || isNum c || decide (c.toNat = 45)
def headF : Bs -> Bool
 | [] => false
 | c :: _ => isLet c
def nameF (s : Bs) : Bool := decide (s.length <= 24) && headF s && s.all nameC
structure Pa where
 name : Bs
 south : Int
 west : Int
 east : Int
deriving DecidableEq
structure Fd where
 st : List (Bs × Int)
 li : List Bs
 pa : List Pa
 va : List (Int × Int)
deriving DecidableEq
def idxP {α : Type} (p : α -> Bool) : List α -> Int -> Int
 | [], _ => -1
 | x :: r, k => if p x then k else idxP p r (k + 1)
def idx (l : List Bs) (s : Bs) : Int := idxP (fun x => decide (x = s)) l 0
def distA (pre : List Bs) : List Bs -> Bool
 | [] => true
 | x :: r => !decide (x ∈ pre) && distA (pre ++ [x]) r
def dist (l : List Bs) : Bool := distA [] l
def isIx (i n : Int) : Bool := decide (0 <= i /\ i < n)
def facing (p q : Pa) : Bool := decide (max p.west q.west < min p.east q.east)
def paOk (f : Fd) (p : Pa) : Bool := isIx p.south (f.li.length - 1) && isIx p.west f.st.length && isIx p.east f.st.length
def xOk (s : Bs × Int) : Bool := decide (0 <= s.2 /\ s.2 <= 100000)
def rangeF (f : Fd) : Bool := f.st.all xOk && f.pa.all (paOk f)
def upA (a : Int) : List Int -> Bool
 | [] => true
 | b :: r => decide (a < b) && upA b r
def upF : List Int -> Bool
 | [] => true
 | a :: r => upA a r
def hits (p q : Pa) : Bool := decide (q.south = p.south) && facing p q
def clearA (pre : List Pa) : List Pa -> Bool
 | [] => true
 | p :: r => decide (p.west < p.east) && !(pre.any (hits p)) && clearA (pre ++ [p]) r
def orderF (f : Fd) : Bool := upF (f.st.map (·.2)) && clearA [] f.pa
def namesF (f : Fd) : Bool := (f.st.map (·.1)).all nameF && f.li.all nameF && (f.pa.map (·.name)).all nameF
def distF (f : Fd) : Bool := dist (f.st.map (·.1)) && dist f.li && dist (f.pa.map (·.name))
def fieldE (f : Fd) : Int :=
 if 12 < f.st.length ∨ 10 < f.li.length ∨ 40 < f.pa.length then 2
 else if f.st.length < 2 ∨ f.li.length = 0 then 5
 else if Cs.varsE f.va ≠ 0 then Cs.varsE f.va
 else if namesF f = false then 4
 else if distF f = false then 6
 else if rangeF f = false then 1
 else if orderF f = false then 30 else 0
def pt (f : Fd) (limit station : Int) : Int := 1 + limit * f.st.length + station
def ptsN (f : Fd) : Nat := 1 + f.li.length * f.st.length
def ptsF (f : Fd) : Int := if fieldE f = 0 then (ptsN f : Int) else 0
structure Bd where
 f : Int
 t : Int
 m : Int
 r : Int
deriving DecidableEq
def natP : Nat -> Nat -> List Bd
 | 0, _ => []
 | n + 1, p => ⟨0, p, 100000, 0⟩ :: ⟨p, 0, 0, 0⟩ :: natP n (p + 1)
def natS (k l : Nat) : Nat -> Nat -> List Bd
 | 0, _ => []
 | n + 1, s => ⟨1 + (l + 1) * k + s, 1 + l * k + s, 0, 0⟩ :: natS k l n (s + 1)
def natL (k : Nat) : Nat -> Nat -> List Bd
 | 0, _ => []
 | n + 1, l => natS k l k 0 ++ natL k n (l + 1)
def nat (f : Fd) : List Bd := natP (ptsN f - 1) 1 ++ natL f.st.length (f.li.length - 1) 0
def natureF (f : Fd) : List Bd × Int := if fieldE f ≠ 0 then ([], fieldE f) else (nat f, 0)
def at_ (y : List Int) (i : Int) : Int := y[i.toNat]?.getD 0
def keepsB (y : List Int) (b : Bd) : Bool := decide (at_ y b.t - at_ y b.f <= b.m)
def drw (f : Fd) (y : List Int) : Bool := decide (y.length = ptsN f) && decide (at_ y 0 = 0) && y.all (fun v => decide (-400000000 <= v /\ v <= 400000000)) && (nat f).all (keepsB y)
def hasP (f : Fd) (s o : Int) (y : List Int) (p : Pa) : Bool :=
 decide (p.west <= s) && decide (s < p.east) && decide (at_ y (pt f p.south s) <= o) && decide (o < at_ y (pt f (p.south + 1) s))
def atF (f : Fd) (s o : Int) (y : List Int) : Int × Int :=
 if fieldE f ≠ 0 then (0, fieldE f)
 else if isIx s f.st.length && decide (0 <= o /\ o <= 100000) && drw f y then
  (if idxP (hasP f s o y) f.pa 0 < 0 then (0, 5) else (idxP (hasP f s o y) f.pa 0, 0))
 else (0, 1)
structure Ca where
 k : Int
 l : Int
 o : Int
 a : Int
 b : Int
 s : Int
 e : Int
 c : Cs.Co
deriving DecidableEq
def co0 : Cs.Co := ⟨0, 0, 0, 0, 0, 0⟩
def ca0 : Ca := ⟨0, 0, 0, 0, 0, 0, 0, co0⟩
def xAt (f : Fd) (i : Int) : Int := (f.st[i.toNat]?.getD ([], 0)).2
def run (f : Fd) (c : Ca) : Int := xAt f c.b - xAt f c.a
def there (f : Fd) (c : Ca) : Bool :=
 isIx c.l f.li.length && isIx c.o f.li.length && isIx c.a f.st.length && isIx c.b f.st.length && decide (-100000 <= c.s /\ c.s <= 100000) && decide (0 <= c.e /\ c.e <= 100000)
def ordered (c : Ca) : Bool :=
 if c.k = 1 then decide (0 <= c.s) else if c.k = 2 then decide (c.l < c.o) && decide (0 <= c.s) else if c.k = 3 ∨ c.k = 5 then decide (c.a ≠ c.b)
 else if c.k = 4 then decide (c.l < c.o) && decide (c.a < c.b) else false
def bare (c : Ca) : Bool :=
 if c.k = 1 then decide (c.o = 0 /\ c.b = 0 /\ c.c = co0)
 else if c.k = 2 then decide (c.b = 0 /\ c.c = co0)
 else if c.k = 3 then decide (c.o = 0 /\ c.s = 0 /\ c.e = 0)
 else if c.k = 4 then decide (c.s = 0 /\ c.e = 0 /\ c.c = co0)
 else if c.k = 5 then decide (c.o = 0 /\ c.c = co0)
 else decide (c.o = 0 /\ c.b = 0 /\ c.s = 0 /\ c.e = 0 /\ c.c = co0)
def callG (f : Fd) (c : Ca) : Int :=
 if there f c && ordered c && bare c then
  (if c.k ≠ 3 then 0 else if (Cs.comF f.va [c.c] (run f c)).2 ≠ 0 then (Cs.comF f.va [c.c] (run f c)).2
   else if (Cs.comF f.va [c.c] (run f c)).1.2.2 then 0 else 5)
 else 1
def callE (f : Fd) (c : Ca) : Int := if fieldE f ≠ 0 then fieldE f else callG f c
def gapAlong (f : Fd) (c : Ca) : Nat -> Int -> List (Int × Int × Int × Int)
 | 0, _ => []
 | n + 1, s => (pt f c.l s, pt f c.o s, 0, 0) :: gapAlong f c n (s + 1)
def gapsF (f : Fd) (c : Ca) : List (Int × Int × Int × Int) :=
 if c.k = 1 then [(0, pt f c.l c.a, c.s - c.e, c.s + c.e)]
 else if c.k = 2 then [(pt f c.l c.a, pt f c.o c.a, c.s - c.e, c.s + c.e)]
 else if c.k = 3 then [(pt f c.l c.a, pt f c.l c.b, (Cs.comF f.va [c.c] (run f c)).1.1, (Cs.comF f.va [c.c] (run f c)).1.2.1)]
 else if c.k = 5 then [(pt f c.l c.a, pt f c.l c.b, c.s - c.e, c.s + c.e)]
 else gapAlong f c (c.b - c.a + 1).toNat c.a
def pairB (r : Int) (g : Int × Int × Int × Int) : List Bd := [⟨g.1, g.2.1, g.2.2.2, r⟩, ⟨g.2.1, g.1, -g.2.2.1, r⟩]
def bnds (f : Fd) (c : Ca) (r : Int) : List Bd := (gapsF f c).flatMap (pairB r)
def boundsF (f : Fd) (c : Ca) (r : Int) : List Bd × Int :=
 if callE f c ≠ 0 then ([], callE f c) else if 0 <= r /\ r <= 1000000 then (bnds f c r, 0) else ([], 1)
def allowsF (f : Fd) (c : Ca) (y : List Int) : Bool × Int :=
 if callE f c ≠ 0 then (false, callE f c) else if drw f y then ((bnds f c 0).all (keepsB y), 0) else (false, 1)
def sub (a b : List Bd) : Bool := a.all (fun x => decide (x ∈ b))
def sameF (f : Fd) (c d : Ca) : Bool × Int :=
 if callE f c ≠ 0 then (false, callE f c) else if callE f d ≠ 0 then (false, callE f d) else (sub (bnds f c 0) (bnds f d 0) && sub (bnds f d 0) (bnds f c 0), 0)
def turnC (c : Ca) : Ca :=
 if c.k = 3 then { c with a := c.b, b := c.a, c := (Cs.revF c.c).1 } else if c.k = 5 then { c with a := c.b, b := c.a, s := -c.s } else c
def backF (f : Fd) (c : Ca) : Ca × Int := if callE f c ≠ 0 then (ca0, callE f c) else (turnC c, 0)
end Dd
end

section
namespace Dd
theorem y14 {α : Type} (p : α -> Bool) (l : List α) : ∀ k : Int, (∃ i, ∃ h : i < l.length, p l[i] = true /\ (∀ j (hj : j < i), p (l[j]'(by omega)) = false) /\ idxP p l k = k + i) ∨ ((∀ i (h : i < l.length), p l[i] = false) /\ idxP p l k = -1) := by
  induction l with
  | nil => intro k; exact .inr ⟨fun i h => by simp at h, rfl⟩
  | cons x r ih =>
    intro k;rw [idxP];by_cases hx : p x = true
    · rw [if_pos hx]
      exact .inl ⟨0, by simp, hx, fun j hj => by omega, by simp⟩
    rw [if_neg hx];rcases ih (k + 1) with ⟨i, hi, h1, h2, h3⟩ | ⟨h1, h2⟩
    · refine .inl ⟨i + 1, by simp; omega, by simpa using h1, fun j hj => ?_, by rw [h3]; omega⟩
      cases j with
      | zero => simpa using hx
      | succ j => simpa using h2 j (by omega)
    refine .inr ⟨fun i h => ?_, h2⟩;cases i with
    | zero => simpa using hx
    | succ j => simpa using h1 j (by simpa using h)
theorem y1h {α : Type} {p : α -> Bool} {l : List α} {i : Nat} (h : i < l.length) (h1 : p l[i] = true) (h2 : ∀ j (hj : j < i), p (l[j]'(by omega)) = false) : idxP p l 0 = i := by
 rcases y14 p l 0 with ⟨k, hk, k1, k2, k3⟩ | ⟨k1, k2⟩
 ·rw [k3];rcases Nat.lt_trichotomy i k with hlt | heq | hgt
  ·rw [k2 i hlt] at h1; cases h1
  ·omega
  rw [h2 k hgt] at k1; cases k1
 rw [k1 i h] at h1; cases h1
theorem y1i {α : Type} {p : α -> Bool} {l : List α} (h : ∀ i (h : i < l.length), p l[i] = false) : idxP p l 0 = -1 := by
 rcases y14 p l 0 with ⟨k, hk, k1, k2, k3⟩ | ⟨k1, k2⟩
 ·rw [h k hk] at k1; cases k1
 exact k2
theorem y4Q {α : Type} (p : α -> Bool) (l : List α) : -1 <= idxP p l 0 /\ idxP p l 0 < l.length := by
 rcases y14 p l 0 with ⟨k, hk, k1, k2, k3⟩ | ⟨k1, k2⟩ <;> omega
theorem y4x {α β : Type} (g : α -> β) (p : β -> Bool) (l : List α) : ∀ k, idxP p (l.map g) k = idxP (fun x => p (g x)) l k := by
 induction l with
 | nil => intro k; rfl
 | cons x r ih => intro k; simp only [List.map_cons, idxP, ih]
theorem y4y {l : List Bs} {s : Bs} : idx l s < 0 ↔ s ∉ l := by
 unfold idx;rcases y14 (fun x => decide (x = s)) l 0 with ⟨k, hk, k1, k2, k3⟩ | ⟨k1, k2⟩
 ·rw [k3];constructor
  ·intro h; omega
  intro h;exact absurd (by rw [<- of_decide_eq_true k1]; exact List.getElem_mem hk) h
 rw [k2];refine ⟨fun _ hm => ?_, fun _ => by decide⟩;obtain ⟨i, hi, rfl⟩ := List.getElem_of_mem hm;have := k1 i hi;simp at this
theorem y3F {l : List Bs} {k : Nat} (hk : k < l.length) : distA (l.take k) (l.drop k) = (!decide (l[k] ∈ l.take k) && distA (l.take (k + 1)) (l.drop (k + 1))) := by
 rw [List.drop_eq_getElem_cons hk, distA, List.take_succ_eq_append_getElem hk]
theorem y3G (l : List Bs) : distA (l.take 0) (l.drop 0) = dist l := by simp [dist]
theorem y8J {l : List Pa} {k : Nat} (hk : k < l.length) : clearA (l.take k) (l.drop k) = (decide (l[k].west < l[k].east) && !((l.take k).any (hits l[k])) && clearA (l.take (k + 1)) (l.drop (k + 1))) := by
 rw [List.drop_eq_getElem_cons hk, clearA, List.take_succ_eq_append_getElem hk]
theorem y9H (y : List Int) (p : Nat) : at_ y (p : Int) = y[p]?.getD 0 := by unfold at_; simp
theorem y1P {b : Bd} : ∀ {n p : Nat}, b ∈ natP n p ↔ ∃ q, p <= q /\ q < p + n /\ (b = ⟨0, q, 100000, 0⟩ ∨ b = ⟨q, 0, 0, 0⟩)
  | 0, p => by simp [natP]; omega
  | n + 1, p => by
    rw [natP, List.mem_cons, List.mem_cons, y1P (n := n) (p := p + 1)];constructor
    · rintro (rfl | rfl | ⟨q, h1, h2, h3⟩)
      · exact ⟨p, Nat.le_refl _, by omega, .inl rfl⟩
      · exact ⟨p, Nat.le_refl _, by omega, .inr rfl⟩
      exact ⟨q, by omega, by omega, h3⟩
    rintro ⟨q, h1, h2, h3⟩;by_cases e : q = p
    · subst e
      rcases h3 with h3 | h3
      · exact .inl h3
      exact .inr (.inl h3)
    exact .inr (.inr ⟨q, by omega, by omega, h3⟩)
theorem y7q {b : Bd} {k l : Nat} : ∀ {n s : Nat}, b ∈ natS k l n s ↔ ∃ q, s <= q /\ q < s + n /\ b = ⟨((1 + (l + 1) * k + q : Nat) : Int), ((1 + l * k + q : Nat) : Int), 0, 0⟩
  | 0, s => by simp [natS]; omega
  | n + 1, s => by
    rw [natS, List.mem_cons, y7q (n := n) (s := s + 1)];constructor
    · rintro (rfl | ⟨q, h1, h2, h3⟩)
      · exact ⟨s, Nat.le_refl _, by omega, by simp⟩
      exact ⟨q, by omega, by omega, h3⟩
    rintro ⟨q, h1, h2, h3⟩;by_cases e : q = s
    · subst e
      exact .inl (by rw [h3]; simp)
    exact .inr ⟨q, by omega, by omega, h3⟩
theorem y2t {b : Bd} {k : Nat} : ∀ {n l : Nat}, b ∈ natL k n l ↔ ∃ q s, l <= q /\ q < l + n /\ s < k /\ b = ⟨((1 + (q + 1) * k + s : Nat) : Int), ((1 + q * k + s : Nat) : Int), 0, 0⟩
  | 0, l => by simp [natL]; omega
  | n + 1, l => by
    rw [natL, List.mem_append, y7q, y2t (n := n) (l := l + 1)];constructor
    · rintro (⟨s, h1, h2, h3⟩ | ⟨q, s, h1, h2, h3⟩)
      · exact ⟨l, s, Nat.le_refl _, by omega, by omega, h3⟩
      exact ⟨q, s, by omega, by omega, h3⟩
    rintro ⟨q, s, h1, h2, h3, h4⟩;by_cases e : q = l
    · subst e
      exact .inl ⟨s, Nat.zero_le _, by omega, h4⟩
    exact .inr ⟨q, s, by omega, by omega, h3, h4⟩
theorem y7y {m n l s : Nat} (hl : l < m) (hs : s < n) : 1 + l * n + s < 1 + m * n := by
 have := Nat.mul_le_mul_right n (show l + 1 <= m by omega);rw [Nat.succ_mul] at this;omega
theorem yCw {m n p : Nat} (h1 : 1 <= p) (h2 : p < 1 + m * n) : ∃ l s, l < m /\ s < n /\ p = 1 + l * n + s := by
 have hn : 0 < n := Nat.pos_of_ne_zero (fun e => by subst e; omega);have hd := Nat.div_add_mod (p - 1) n;have hm := Nat.mod_lt (p - 1) hn;refine ⟨(p - 1) / n, (p - 1) % n, ?_, hm, by rw [Nat.mul_comm]; omega⟩;exact (Nat.div_lt_iff_lt_mul hn).2 (by omega)
theorem y4u {f : Fd} {y : List Int} : drw f y = true ↔ y.length = ptsN f /\ at_ y 0 = 0 /\ ∀ l s : Nat, l < f.li.length -> s < f.st.length ->
  (0 <= at_ y ((1 + l * f.st.length + s : Nat) : Int) /\ at_ y ((1 + l * f.st.length + s : Nat) : Int) <= 100000) /\ (0 < l -> at_ y ((1 + (l - 1) * f.st.length + s : Nat) : Int) <= at_ y ((1 + l * f.st.length + s : Nat) : Int)) := by
 unfold drw;simp only [Bool.and_eq_true, decide_eq_true_eq, List.all_eq_true];constructor
 ·rintro ⟨⟨⟨h1, h2⟩, h3⟩, h4⟩;refine ⟨h1, h2, fun l s hl hs => ?_⟩;have hp := y7y hl hs;have hN : ptsN f = 1 + f.li.length * f.st.length := rfl;have a1 := h4 ⟨0, ((1 + l * f.st.length + s : Nat) : Int), 100000, 0⟩ (List.mem_append_left _ (y1P.2 ⟨1 + l * f.st.length + s, by omega, by omega, .inl rfl⟩));have a2 := h4 ⟨((1 + l * f.st.length + s : Nat) : Int), 0, 0, 0⟩ (List.mem_append_left _ (y1P.2 ⟨1 + l * f.st.length + s, by omega, by omega, .inr rfl⟩));simp only [keepsB, decide_eq_true_eq] at a1 a2;refine ⟨by omega, fun h0 => ?_⟩;have a3 := h4 ⟨((1 + (l - 1 + 1) * f.st.length + s : Nat) : Int), ((1 + (l - 1) * f.st.length + s : Nat) : Int), 0, 0⟩ (List.mem_append_right _ (y2t.2 ⟨l - 1, s, Nat.zero_le _, by omega, hs, rfl⟩));simp only [keepsB, decide_eq_true_eq, show l - 1 + 1 = l by omega] at a3;omega
 rintro ⟨h1, h2, h3⟩;have hN : ptsN f = 1 + f.li.length * f.st.length := rfl;have hv : ∀ p : Nat, 1 <= p -> p < ptsN f -> 0 <= at_ y (p : Int) /\ at_ y (p : Int) <= 100000 := fun p a b => by
  obtain ⟨l, s, hl, hs, rfl⟩ := yCw a (by rw [<- hN]; exact b);exact (h3 l s hl hs).1
 refine ⟨⟨⟨h1, h2⟩, fun v hm => ?_⟩, fun b hb => ?_⟩
 ·obtain ⟨i, hi, rfl⟩ := List.getElem_of_mem hm;have e : at_ y (i : Int) = y[i] := by rw [y9H]; simp [hi]
  by_cases i0 : i = 0
  ·subst i0;rw [<- e];have : at_ y ((0 : Nat) : Int) = 0 := h2;omega
  have := hv i (by omega) (by omega);omega
 simp only [keepsB, decide_eq_true_eq];rcases List.mem_append.1 hb with hb | hb
 ·obtain ⟨q, q1, q2, rfl | rfl⟩ := y1P.1 hb
  ·have := hv q q1 (by omega);simp only;omega
  have := hv q q1 (by omega);simp only;omega
 obtain ⟨q, s, q1, q2, q3, rfl⟩ := y2t.1 hb;have := (h3 (q + 1) s (by omega) q3).2 (by omega);simp only [Nat.add_sub_cancel] at this;simp only;omega
end Dd
end

section
namespace Dd
def fldA : Bs -> Bs -> List Bs
 | cur, [] => if cur = [] then [] else [cur]
 | cur, c :: r => if c = 32 then (if cur = [] then fldA [] r else cur :: fldA [] r) else fldA (cur ++ [c]) r
theorem yCE (r : Bs) : ∀ cur : Bs, fldA cur r = ((match Cs.cutF r with | [] => [cur] | x :: t => (cur ++ x) :: t).filter fun w => decide (w ≠ [])) := by
  induction r with
  | nil =>
    intro cur;unfold fldA Cs.cutF;by_cases h : cur = []
    · simp [h]
    simp [h]
  | cons c r ih =>
    intro cur;rw [fldA, Cs.cutF];by_cases hc : c = 32
    · rw [if_pos hc, if_pos hc, ih []]
      simp only [List.append_nil];have hh : (match Cs.cutF r with | [] => [[]] | x :: t => ([] ++ x) :: t) = Cs.cutF r := by
        cases h : Cs.cutF r with
        | nil => exact absurd h (Cs.y4n r)
        | cons x t => simp
      rw [hh];by_cases h : cur = []
      · simp [h]
      simp [h]
    rw [if_neg hc, if_neg hc, ih];cases h : Cs.cutF r with
    | nil => exact absurd h (Cs.y4n r)
    | cons x t => simp
def blankF (s : Bs) : List Bs := (Cs.cutF s).filter fun w => decide (w ≠ [])
theorem yB8 (s : Bs) : fldA [] s = blankF s := by
 rw [yCE];unfold blankF;cases h : Cs.cutF s with
 | nil => exact absurd h (Cs.y4n s)
 | cons x t => simp
theorem y9n (cur m r : Bs) (h : ∀ c ∈ m, c ≠ 32) : fldA cur (m ++ r) = fldA (cur ++ m) r := by
  induction m generalizing cur with
  | nil => simp
  | cons c m ih =>
    rw [List.cons_append, fldA, if_neg (h c List.mem_cons_self), ih _ (fun x hx => h x (List.mem_cons_of_mem _ hx))];simp
theorem yBv (s : ByteArray) (i : Nat) (h : i < s.size) : s.get! i = s.data.toList[i]'(by simpa using h) := by
  cases s with
  | mk d =>
    show d[i]! = _;rw [getElem!_pos d i h];simp
theorem y9f (s : ByteArray) (i : Nat) (h : i < s.size) (hb : s.get! i = 32) : Utf8.decode s i = (32, 1) := by
 rw [Lib.decode_at, hb];simp [Lib.decodeN]
theorem y9g (s : ByteArray) (i : Nat) (h : i < s.size) (hb : (s.get! i).toNat ≠ 32) :
  (Utf8.decode s i).1 ≠ 32 /\ 1 <= (Utf8.decode s i).2 /\ i + (Utf8.decode s i).2 <= s.size /\ ∀ j, 0 < j -> j < (Utf8.decode s i).2 -> (s.get! (i + j)).toNat ≠ 32 := by
 rw [Lib.decode_at];obtain ⟨b0, h0⟩ := zE ((s.get! i).toNat);obtain ⟨b1, h1⟩ := zE ((s.get! (i + 1)).toNat);obtain ⟨b2, h2⟩ := zE ((s.get! (i + 2)).toNat);obtain ⟨b3, h3⟩ := zE ((s.get! (i + 3)).toNat);obtain ⟨n, hn⟩ := zE (s.size - i);rw [h0] at hb;rw [h0, h1, h2, h3, hn];have hin : ∀ k, k <= n -> i + k <= s.size := fun k hk => by omega
 have n1 : 1 <= n := by omega
 clear hn h;unfold Lib.decodeN;split
 ·exact ⟨hb, Nat.le_refl _, hin _ n1, fun j a b => by dsimp only at b; omega⟩
 split
 ·rename_i c1 c2;split
  ·refine ⟨by dsimp only; omega, by dsimp only; omega, hin _ (by omega), fun j a b => ?_⟩;dsimp only at b;obtain rfl : j = 1 := by omega
   omega
  exact ⟨by dsimp only; omega, Nat.le_refl _, hin _ n1, fun j a b => by dsimp only at b; omega⟩
 split
 ·rename_i c1 c2 c3;split
  ·refine ⟨by dsimp only; omega, by dsimp only; omega, hin _ (by omega), fun j a b => ?_⟩;dsimp only at b;rcases (show j = 1 ∨ j = 2 by omega) with rfl | rfl <;> omega
  exact ⟨by dsimp only; omega, Nat.le_refl _, hin _ n1, fun j a b => by dsimp only at b; omega⟩
 split
 ·rename_i c1 c2 c3 c4;split
  ·refine ⟨by dsimp only; omega, by dsimp only; omega, hin _ (by omega), fun j a b => ?_⟩;dsimp only at b;rcases (show j = 1 ∨ j = 2 ∨ j = 3 by omega) with rfl | rfl | rfl <;> omega
  exact ⟨by dsimp only; omega, Nat.le_refl _, hin _ n1, fun j a b => by dsimp only at b; omega⟩
 exact ⟨by dsimp only; omega, Nat.le_refl _, hin _ n1, fun j a b => by dsimp only at b; omega⟩
def curAt (L : Bs) (pos : Nat) : Option Nat -> Bs
 | none => []
 | some a => (L.take pos).drop a
theorem yBt (s : ByteArray) (a b : Nat) : s.extract a b = ⟨((s.data.toList.take b).drop a).toArray⟩ := by
 have : (s.extract a b).data = ((s.data.toList.take b).drop a).toArray := by
  rw [ByteArray.data_extract];apply Array.toList_inj.1;simp [List.extract_eq_take_drop, List.drop_take]
 cases h : s.extract a b;rw [h] at this;simp only at this;rw [this]
def bat (l : Bs) : ByteArray := ⟨l.toArray⟩
theorem yBY (s : ByteArray) : ∀ (f pos : Nat) (st : Option Nat) (acc : List (Nat × Nat)), s.size <= pos + f -> pos <= s.size -> (∀ a, st = some a -> a < pos) ->
    (Lib.closeSpans s (Lib.spansFromP (fun r => decide (r = 32)) s f pos st acc)).map (fun x => s.extract x.1 x.2) =
      acc.map (fun x => s.extract x.1 x.2) ++ (fldA (curAt s.data.toList pos st) (s.data.toList.drop pos)).map bat := by
  intro f;have hlen : s.data.toList.length = s.size := by simp
  have hend : ∀ (pos : Nat) (st : Option Nat) (acc : List (Nat × Nat)), s.size <= pos -> pos <= s.size -> (∀ a, st = some a -> a < pos) ->
      (Lib.closeSpans s (acc, st)).map (fun x => s.extract x.1 x.2) = acc.map (fun x => s.extract x.1 x.2) ++ (fldA (curAt s.data.toList pos st) (s.data.toList.drop pos)).map bat := by
    intro pos st acc h1 h2 h3;have hd : s.data.toList.drop pos = [] := List.drop_eq_nil_of_le (by omega);rw [hd, fldA];cases st with
    | none => simp [Lib.closeSpans, curAt]
    | some a =>
      have ha := h3 a rfl;have hne : curAt s.data.toList pos (some a) ≠ [] := by
        unfold curAt;intro e;have := congrArg List.length e;simp at this;omega
      rw [if_neg hne];simp only [Lib.closeSpans, List.map_append, List.map_cons, List.map_nil, bat, yBt];congr 3;unfold curAt;rw [List.take_of_length_le (by omega), List.take_of_length_le (by omega)]
  induction f with
  | zero =>
    intro pos st acc h1 h2 h3;rw [Lib.spansFromP_end _ _ _ _ _ _ (by omega)];exact hend pos st acc (by omega) h2 h3
  | succ f ih =>
    intro pos st acc h1 h2 h3;by_cases hp : pos < s.size
    · have hp' : pos < s.data.toList.length := by omega
      have hg := yBv s pos hp;rw [Lib.spansFromP.eq_def];dsimp only;rw [if_pos hp];by_cases hb : s.get! pos = 32
      · rw [y9f s pos hp hb]
        simp only [decide_true, if_true];have hd : s.data.toList.drop pos = 32 :: s.data.toList.drop (pos + 1) := by rw [List.drop_eq_getElem_cons hp', <- hg, hb]
        rw [hd, fldA, if_pos rfl];cases st with
        | none =>
          rw [ih (pos + 1) none acc (by omega) (by omega) (fun a e => by cases e)];simp [curAt]
        | some a =>
          have ha := h3 a rfl;have hne : curAt s.data.toList pos (some a) ≠ [] := by
            unfold curAt;intro e;have := congrArg List.length e;simp at this;omega
          rw [if_neg hne];dsimp only;rw [ih (pos + 1) none _ (by omega) (by omega) (fun a e => by cases e)];simp only [List.map_append, List.map_cons, List.map_nil, bat, yBt, curAt, List.append_assoc, List.singleton_append]
      have hb' : (s.get! pos).toNat ≠ 32 := fun e => hb (UInt8.toNat_inj.1 e);obtain ⟨d1, d2, d3, d4⟩ := y9g s pos hp hb';obtain ⟨⟨r, k⟩, hdk⟩ : ∃ d, Utf8.decode s pos = d := ⟨_, rfl⟩;rw [hdk] at d1 d2 d3 d4 ⊢;dsimp only at d1 d2 d3 d4 ⊢;rw [if_neg (by simpa using d1)];have hm : s.data.toList.drop pos = (s.data.toList.drop pos).take k ++ s.data.toList.drop (pos + k) := by
        rw [<- List.drop_drop, List.take_append_drop]
      have hall : ∀ c ∈ (s.data.toList.drop pos).take k, c ≠ 32 := by
        intro c hc e;obtain ⟨j, hj, rfl⟩ := List.getElem_of_mem hc;rw [List.length_take, List.length_drop] at hj;rw [List.getElem_take, List.getElem_drop] at e;rw [<- yBv s (pos + j) (by omega)] at e;by_cases j0 : j = 0
        · subst j0
          exact hb (by simpa using e)
        exact d4 j (by omega) (by omega) (by rw [e]; rfl)
      have hcur : ∀ a, a <= pos -> ((s.data.toList.take pos).drop a) ++ (s.data.toList.drop pos).take k = (s.data.toList.take (pos + k)).drop a := by
        intro a ha;rw [List.take_add, List.drop_append_of_le_length (by rw [List.length_take]; omega)]
      rw [hm, y9n _ _ _ hall];cases st with
      | none =>
        dsimp only;rw [ih (pos + k) (some pos) acc (by omega) (by omega) (fun a e => by cases e; omega)];congr 2;have := hcur pos (Nat.le_refl _);simp only [curAt];rw [<- this];simp
      | some a =>
        have ha := h3 a rfl;dsimp only;rw [ih (pos + k) (some a) acc (by omega) (by omega) (fun b e => by cases e; omega)];congr 2;simp only [curAt];rw [<- hcur a (by omega)]
    rw [Lib.spansFromP_end _ _ _ _ _ _ hp];exact hend pos st acc (by omega) h2 h3
theorem y44 (l : Bs) : Lib.goFieldsP (fun r => decide (r = 32)) (bat l) = (blankF l).map bat := by
 unfold Lib.goFieldsP Lib.spansOfP;rw [yBY (bat l) (bat l).size 0 none [] (by omega) (Nat.zero_le _) (fun a e => by cases e)];simp only [List.map_nil, List.nil_append, curAt, List.drop_zero];rw [yB8];rfl
def codeF (s : Bs) : Bs := s.takeWhile fun c => decide (c ≠ 35)
def fieldsF (s : Bs) : List Bs := blankF (codeF s)
end Dd
end

section
namespace Dd
def kStation : Bs := [115, 116, 97, 116, 105, 111, 110]
def kLimit : Bs := [108, 105, 109, 105, 116]
def kParcel : Bs := [112, 97, 114, 99, 101, 108]
def kVariation : Bs := [118, 97, 114, 105, 97, 116, 105, 111, 110]
def kStone : Bs := [115, 116, 111, 110, 101]
def kWidth : Bs := [119, 105, 100, 116, 104]
def kCourse : Bs := [99, 111, 117, 114, 115, 101]
def kAlong : Bs := [97, 108, 111, 110, 103]
def kLevel : Bs := [108, 101, 118, 101, 108]
def kDeed : Bs := [100, 101, 101, 100]
def kBy : Bs := [98, 121]
def kGive : Bs := [103, 105, 118, 101]
def kWear : Bs := [119, 101, 97, 114]
def kSlack : Bs := [115, 108, 97, 99, 107]
def linesF : Bs -> List Bs
 | [] => [[]]
 | c :: r => if c = 10 then [] :: linesF r else match linesF r with | [] => [[c]] | x :: t => (c :: x) :: t
def sgnF (w : Bs) : Option Int :=
 match Cs.numF w with
 | some n => if Lib.itoa n = w /\ -999999999 <= n /\ n <= 999999999 then some n else none
 | none => none
def nnF (w : Bs) : Option Int :=
 match sgnF w with
 | some n => if 0 <= n then some n else none
 | none => none
def stationL (f : Fd) : List Bs -> Int × Fd
 | [n, x] => if nameF n then (match nnF x with | some v => (0, { f with st := f.st ++ [(n, v)] }) | none => (4, f)) else (4, f)
 | _ => (4, f)
def limitL (f : Fd) : List Bs -> Int × Fd
 | [n] => if nameF n then (0, { f with li := f.li ++ [n] }) else (4, f)
 | _ => (4, f)
def parcelL (f : Fd) : List Bs -> Int × Fd
  | [n, s, a, b] =>
    if nameF n && nameF s && nameF a && nameF b then
      (if idx f.li s < 0 ∨ idx (f.st.map (·.1)) a < 0 ∨ idx (f.st.map (·.1)) b < 0 then (5, f)
       else if idx f.li s + 1 < f.li.length then (0, { f with pa := f.pa ++ [⟨n, idx f.li s, idx (f.st.map (·.1)) a, idx (f.st.map (·.1)) b⟩] }) else (1, f))
    else (4, f)
  | _ => (4, f)
def variationL (f : Fd) : List Bs -> Int × Fd
  | [y, e] => match nnF y, sgnF e with
    | some v, some d => (0, { f with va := f.va ++ [(v, d)] })
    | _, _ => (4, f)
  | _ => (4, f)
def lineF (f : Fd) : List Bs -> Int × Fd
  | [] => (4, f)
  | k :: r =>
    if k = kStation then stationL f r else if k = kLimit then limitL f r else if k = kParcel then parcelL f r
    else if k = kVariation then variationL f r else (4, f)
def fieldG (f : Fd) : List Bs -> Int -> (Int × Int) × Fd
  | [], _ => ((0, 0), f)
  | l :: r, k =>
    if fieldsF l = [] then fieldG f r (k + 1)
    else if (lineF f (fieldsF l)).1 = 0 then fieldG (lineF f (fieldsF l)).2 r (k + 1)
    else (((lineF f (fieldsF l)).1, k), f)
def fd0 : Fd := ⟨[], [], [], []⟩
def parseF (src : Bs) : Fd × (Int × Int) :=
 if 20000 < src.length then (fd0, (2, 0))
 else if (fieldG fd0 (linesF src) 1).1 = (0, 0) then
  (if fieldE (fieldG fd0 (linesF src) 1).2 = 0 then ((fieldG fd0 (linesF src) 1).2, (0, 0)) else (fd0, (fieldE (fieldG fd0 (linesF src) 1).2, 0)))
 else (fd0, (fieldG fd0 (linesF src) 1).1)
structure Dr where
 l : Bs
 o : Bs
 a : Bs
 b : Bs
 c : Ca
deriving DecidableEq
def upTo (w : Bs) : List Bs -> Option (Bs × List Bs)
 | l => if idx l w < 0 then none else some (Lib.join (l.take (idx l w).toNat) [32], l.drop ((idx l w).toNat + 1))
def stoneL : List Bs -> Option Dr
 | [l, a, s, e] => if nameF l && nameF a then (match nnF s, nnF e with | some x, some y => some ⟨l, [], a, [], { ca0 with k := 1, s := x, e := y }⟩ | _, _ => none) else none
 | _ => none
def widthL : List Bs -> Option Dr
 | [l, o, a, s, e] => if nameF l && nameF o && nameF a then (match nnF s, nnF e with | some x, some y => some ⟨l, o, a, [], { ca0 with k := 2, s := x, e := y }⟩ | _, _ => none) else none
 | _ => none
def alongL : List Bs -> Option Dr
 | [l, o, a, b] => if nameF l && nameF o && nameF a && nameF b then some ⟨l, o, a, b, { ca0 with k := 4 }⟩ else none
 | _ => none
def levelL : List Bs -> Option Dr
 | [l, a, b, s, e] => if nameF l && nameF a && nameF b then (match sgnF s, nnF e with | some x, some y => some ⟨l, [], a, b, { ca0 with k := 5, s := x, e := y }⟩ | _, _ => none) else none
 | _ => none
def tailL (links bearing : Int) : List Bs -> Option Cs.Co
 | [n, w, x, s, y] => if w = kWear /\ s = kSlack then
   (match nnF n, sgnF x, nnF y with | some a, some b, some c => some ⟨bearing, a, links, 0, b, c⟩ | _, _, _ => none) else none
 | _ => none
def runL (l : List Bs) : Option Cs.Co :=
  match upTo kBy l with
  | none => none
  | some (s, r) => if (Cs.lnkF s).2 = 0 /\ 1 <= (Cs.lnkF s).1 /\ (Cs.lnkF s).1 <= 100000 then
      (match upTo kGive r with
       | none => none
       | some (t, r2) => if (Cs.berF t).2 = 0 then tailL (Cs.lnkF s).1 (Cs.berF t).1 r2 else none)
    else none
def courseL : List Bs -> Option Dr
 | l :: a :: b :: r => if nameF l && nameF a && nameF b then (match runL r with | some c => some ⟨l, [], a, b, { ca0 with k := 3, c := c }⟩ | none => none) else none
 | _ => none
def draftF : List Bs -> Option Dr
  | [] => none
  | k :: r =>
    if k = kStone then stoneL r else if k = kWidth then widthL r else if k = kCourse then courseL r
    else if k = kAlong then alongL r else if k = kLevel then levelL r else none
def inF (f : Fd) (y : Int) (d : Dr) : Int × Ca :=
 let c : Ca := ⟨d.c.k, idx f.li d.l, (if d.o = [] then d.c.o else idx f.li d.o), idx (f.st.map (·.1)) d.a, (if d.b = [] then d.c.b else idx (f.st.map (·.1)) d.b), d.c.s, d.c.e, (if d.c.k = 3 then { d.c.c with y := y } else d.c.c)⟩
 if c.l < 0 ∨ c.a < 0 ∨ c.o < 0 ∨ c.b < 0 then (5, ca0) else if callG f c = 0 then (0, c) else (callG f c, ca0)
def readF (f : Fd) (line : Bs) (year : Int) : Ca × Int :=
 if fieldE f ≠ 0 then (ca0, fieldE f) else if ¬ (1 <= year /\ year <= 3000) then (ca0, 1) else if (10 : UInt8) ∈ line then (ca0, 4)
 else match draftF (fieldsF line) with
  | none => (ca0, 4)
  | some d => ((inF f year d).2, (inF f year d).1)
structure De where
 name : Bs
 year : Int
 rank : Int
 calls : List Ca
deriving DecidableEq
def dated (d : De) : Bool := decide (1 <= d.year /\ d.year <= 3000) && decide (0 <= d.rank /\ d.rank <= 1000)
def callsE (f : Fd) (y : Int) : List Ca -> Int
 | [] => 0
 | c :: r => if callG f c ≠ 0 then callG f c else if c.k = 3 /\ c.c.y ≠ y then 1 else callsE f y r
def deedG (f : Fd) (d : De) : Int :=
 if 20 < d.calls.length then 2 else if nameF d.name = false then 4 else if dated d = false then 1 else callsE f d.year d.calls
def deedsG (f : Fd) (pre : List Bs) : List De -> Int
 | [] => 0
 | d :: r => if deedG f d ≠ 0 then deedG f d else if d.name ∈ pre then 6 else deedsG f (pre ++ [d.name]) r
def deedL (l : List De) : List Bs -> Int × List De
 | [n, y, k] => if nameF n then (match nnF y, nnF k with
   | some a, some b => if 60 <= l.length then (2, l) else if dated ⟨n, a, b, []⟩ = false then (1, l) else if n ∈ l.map (·.name) then (6, l) else (0, l ++ [⟨n, a, b, []⟩])
   | _, _ => (4, l)) else (4, l)
 | _ => (4, l)
def moreL (f : Fd) (l : List De) (w : List Bs) : Int × List De :=
  match draftF w with
  | none => (4, l)
  | some d => match l.getLast? with
    | none => (4, l)
    | some z => if 20 <= z.calls.length then (2, l) else if (inF f z.year d).1 = 0 then (0, l.dropLast ++ [{ z with calls := z.calls ++ [(inF f z.year d).2] }]) else ((inF f z.year d).1, l)
def stepL (f : Fd) (l : List De) : List Bs -> Int × List De
 | [] => (4, l)
 | k :: r => if k = kDeed then deedL l r else moreL f l (k :: r)
def deedsL (f : Fd) (l : List De) : List Bs -> Int -> (Int × Int) × List De
  | [], _ => ((0, 0), l)
  | t :: r, k =>
    if fieldsF t = [] then deedsL f l r (k + 1)
    else if (stepL f l (fieldsF t)).1 = 0 then deedsL f (stepL f l (fieldsF t)).2 r (k + 1)
    else (((stepL f l (fieldsF t)).1, k), l)
def parseD (f : Fd) (src : Bs) : List De × (Int × Int) :=
 if fieldE f ≠ 0 then ([], (fieldE f, 0)) else if 20000 < src.length then ([], (2, 0))
 else if (deedsL f [] (linesF src) 1).1 = (0, 0) then ((deedsL f [] (linesF src) 1).2, (0, 0)) else ([], (deedsL f [] (linesF src) 1).1)
def exampleS : Bs := [115, 116, 97, 116, 105, 111, 110, 32, 97, 115, 104, 32, 48, 10, 115, 116, 97, 116, 105, 111, 110, 32, 111, 97, 107, 32, 56, 54, 54, 10, 108, 105, 109, 105, 116, 32, 119, 97, 108, 108, 10, 108, 105, 109, 105, 116, 32, 104, 101, 100, 103, 101, 10, 112, 97, 114, 99, 101, 108, 32, 104, 111, 109, 101, 32, 119, 97, 108, 108, 32, 97, 115, 104, 32, 111, 97, 107, 10, 118, 97, 114, 105, 97, 116, 105, 111, 110, 32, 49, 55, 48, 48, 32, 49, 48, 10]
end Dd
end

section
namespace Dd
def exL : Bs := [99, 111, 117, 114, 115, 101, 32, 119, 97, 108, 108, 32, 97, 115, 104, 32, 111, 97, 107, 32, 49, 48, 32, 99, 104, 97, 105, 110, 115, 32, 98, 121, 32, 110, 111, 114, 116, 104, 32, 53, 48, 32, 101, 97, 115, 116, 32, 103, 105, 118, 101, 32, 50, 32, 119, 101, 97, 114, 32, 48, 32, 115, 108, 97, 99, 107, 32, 49, 48, 48]
def exS : Bs := [115, 116, 111, 110, 101, 32, 119, 97, 108, 108, 32, 111, 97, 107, 32, 50, 53, 48, 32, 50]
def exT : Bs := [115, 116, 111, 110, 101, 32, 119, 97, 108, 108, 32, 97, 115, 104, 32, 49, 32, 48]
def exF : Fd := ⟨[([97, 115, 104], 0), ([111, 97, 107], 866)], [[119, 97, 108, 108], [104, 101, 100, 103, 101]], [⟨[104, 111, 109, 101], 0, 0, 1⟩], [(1700, 10)]⟩
def exC : Ca := ⟨3, 0, 0, 0, 1, 0, 0, 50, 2, 1000, 1750, 0, 100⟩
def exD : Ca := ⟨1, 0, 0, 1, 0, 250, 2, co0⟩
def exB : Ca := ⟨3, 0, 0, 1, 0, 0, 0, 230, 2, 1000, 1750, 0, 100⟩
def exY : List Int := [0, 100, 100, 150, 150]
theorem ex1 : parseF exampleS = (exF, (0, 0)) := by decide +kernel
theorem ex2 : readF exF exL 1750 = (exC, 0) := by decide +kernel
theorem ex3 : boundsF exF exC 7 = ([⟨1, 2, 519, 7⟩, ⟨2, 1, -480, 7⟩], 0) := by decide +kernel
theorem ex4 : readF exF exS 1750 = (exD, 0) := by decide +kernel
theorem ex5 : boundsF exF exD 7 = ([⟨0, 2, 252, 7⟩, ⟨2, 0, -248, 7⟩], 0) := by decide +kernel
theorem ex6 : natureF exF = ([⟨0, 1, 100000, 0⟩, ⟨1, 0, 0, 0⟩, ⟨0, 2, 100000, 0⟩, ⟨2, 0, 0, 0⟩, ⟨0, 3, 100000, 0⟩, ⟨3, 0, 0, 0⟩, ⟨0, 4, 100000, 0⟩, ⟨4, 0, 0, 0⟩, ⟨3, 1, 0, 0⟩, ⟨4, 2, 0, 0⟩], 0) := by decide +kernel
theorem ex7 : atF exF 0 120 exY = (0, 0) := by decide +kernel
theorem ex8 : backF exF exC = (exB, 0) := by decide +kernel
theorem ex9 : parseD exF exT = ([], (4, 1)) := by decide +kernel
theorem ex10 : ptsF exF = 5 := by decide +kernel
end Dd
end

section
namespace Cs
theorem y35 {vs : List (Int × Int)} {c : Co} {dx : Int} (h : eastE vs [c] dx ≠ 0) : comF vs [c] dx = ((0, 0, false), eastE vs [c] dx) := by
 rw [comF, if_neg (by simp), if_neg (by simp), if_pos h]
theorem y5c {vs : List (Int × Int)} {c : Co} {dx : Int} (h : eastE vs [c] dx = 0) : comF vs [c] dx = (comG vs dx (-100000, 100000) [c], 0) := by
 rw [comF, if_neg (by simp), if_neg (by simp), if_neg (by rw [h]; simp)]
theorem yCA {vs : List (Int × Int)} {c : Co} {dx : Int} (h : eastE vs [c] dx = 0) : courseOk c = true /\ dx ≠ 0 /\ -100000 <= dx /\ dx <= 100000 := by
 unfold eastE at h;split at h
 ·rename_i h1; exact absurd h h1
 rename_i h1;split at h
 ·omega
 rename_i h2;have h3 : checkE vs [c] = 0 := Decidable.not_not.1 h1;refine ⟨?_, by omega, by omega, by omega⟩;unfold checkE at h3;split at h3
 ·rename_i h4; exact absurd h3 h4
 split at h3
 ·rename_i h5; simpa using h5
 omega
theorem yCC {vs : List (Int × Int)} {c : Co} {dx : Int} (h : eastE vs [c] dx = 0) {y : Int} (h0 : -100000 <= y) (h1 : y <= 100000) :
  fitsF vs c dx y = ((comG vs dx (-100000, 100000) [c]).2.2 && (decide ((comG vs dx (-100000, 100000) [c]).1 <= y) && decide (y <= (comG vs dx (-100000, 100000) [c]).2.1)), 0) := by
 obtain ⟨g1, g2, g3, g4⟩ := yCA h;have hi := yB3 vs g2 g3 g4 [c] (by simpa using g1) (-100000) 100000 (by decide) (by decide) (by decide) h0 h1;have hs : stepE vs c dx y = 0 := by rw [stepE, if_neg (by rw [h]; simp), if_neg (by omega)]
 have hm : misfitF vs c dx y = (misF vs c dx y, 0) := by rw [misfitF, if_neg (by rw [hs]; simp)]
 rw [fitsF, hm];simp only [decide_true, Bool.true_and, Prod.mk.injEq, and_true];rw [Bool.eq_iff_iff];simp only [decide_eq_true_eq, Bool.and_eq_true];rw [<- hi];simp only [List.mem_singleton, forall_eq];constructor
 ·intro e; exact ⟨⟨h0, h1⟩, e⟩
 intro e; exact e.2
end Cs
end

section
namespace Dd
def other (f : Fd) (c : Ca) : Bool := decide (c.l < c.o) && decide (c.o < f.li.length)
def rtable (f : Fd) (c : Ca) : Bool :=
 if (isIx c.l f.li.length && isIx c.a f.st.length && decide (0 <= c.e /\ c.e <= 100000)) = false then false
 else if c.k = 1 then decide (c.c = co0) && decide (c.o = 0) && decide (c.b = 0) && decide (0 <= c.s /\ c.s <= 100000)
 else if c.k = 2 then decide (c.c = co0) && other f c && decide (c.b = 0) && decide (0 <= c.s /\ c.s <= 100000)
 else if c.k = 3 then decide (c.o = 0) && decide (c.s = 0) && decide (c.e = 0) && isIx c.b f.st.length && decide (c.b ≠ c.a)
 else if c.k = 4 then decide (c.c = co0) && other f c && decide (c.s = 0) && decide (c.e = 0) && decide (c.a < c.b) && decide (c.b < f.st.length)
 else if c.k = 5 then decide (c.c = co0) && decide (c.o = 0) && isIx c.b f.st.length && decide (c.b ≠ c.a) && decide (-100000 <= c.s /\ c.s <= 100000)
 else false
theorem yAc {f : Fd} (c : Ca) (h1 : 1 <= f.li.length) (h2 : 2 <= f.st.length) : rtable f c = (there f c && ordered c && bare c) := by
 obtain ⟨k, l, o, a, b, s, e, co⟩ := c;rw [Bool.eq_iff_iff];unfold rtable there ordered bare other isIx;dsimp only;obtain ⟨m, hm⟩ := zE (f.li.length);obtain ⟨n, hn⟩ := zE (f.st.length);rw [hm] at h1 ⊢;rw [hn] at h2 ⊢;obtain ⟨z, hz⟩ : ∃ z : Prop, (co = co0) = z := ⟨_, rfl⟩;have hd : decide (co = co0) = decide (co = co0) := rfl;by_cases hco : co = co0
 all_goals
  by_cases k1 : k = 1
  ·subst k1; simp [hco] <;> omega
  by_cases k2 : k = 2
  ·subst k2; simp [hco] <;> omega
  by_cases k3 : k = 3
  ·subst k3; simp [hco] <;> omega
  by_cases k4 : k = 4
  ·subst k4; simp [hco] <;> omega
  by_cases k5 : k = 5
  ·subst k5; simp [hco] <;> omega
  simp [k1, k2, k3, k4, k5]
def rcallG (f : Fd) (c : Ca) : Int :=
 if rtable f c = false then 1 else if c.k ≠ 3 then 0 else if Cs.courseE c.c ≠ 0 then Cs.courseE c.c
 else if (Cs.comF f.va [c.c] (run f c)).2 ≠ 0 then (Cs.comF f.va [c.c] (run f c)).2 else if (Cs.comF f.va [c.c] (run f c)).1.2.2 then 0 else 5
theorem y0G {f : Fd} (h : fieldE f = 0) : 1 <= f.li.length /\ 2 <= f.st.length /\ f.st.length <= 12 /\ f.li.length <= 10 /\ f.pa.length <= 40 /\ Cs.varsE f.va = 0 /\ namesF f = true /\ distF f = true /\ rangeF f = true /\ orderF f = true := by
 unfold fieldE at h;split at h
 ·omega
 split at h
 ·omega
 split at h
 ·rename_i h1 h2 h3; exact absurd h h3
 split at h
 ·omega
 split at h
 ·omega
 split at h
 ·omega
 split at h
 ·omega
 rename_i h1 h2 h3 h4 h5 h6 h7;simp only [Bool.not_eq_false] at h4 h5 h6 h7;exact ⟨by omega, by omega, by omega, by omega, by omega, by omega, h4, h5, h6, h7⟩
theorem yC9 {vs : List (Int × Int)} {c : Cs.Co} {dx : Int} (hv : Cs.varsE vs = 0) (hc : Cs.courseE c ≠ 0) : (Cs.comF vs [c] dx).2 = Cs.courseE c := by
 have hk : Cs.courseOk c = false := by
  unfold Cs.courseE at hc;rcases h : Cs.courseOk c with _ | _
  ·rfl
  rw [h] at hc; simp at hc
 have h1 : Cs.checkE vs [c] = 1 := by
  unfold Cs.checkE;rw [if_neg (by rw [hv]; simp)];simp [hk]
 have h2 : Cs.eastE vs [c] dx = 1 := by
  unfold Cs.eastE;rw [if_pos (by rw [h1]; simp), h1]
 rw [Cs.y35 (by rw [h2]; simp), h2];unfold Cs.courseE;rw [hk];rfl
theorem yAY {f : Fd} (hf : fieldE f = 0) (c : Ca) : rcallG f c = callG f c := by
 obtain ⟨h1, h2, _, _, _, hv, _⟩ := y0G hf;unfold rcallG callG;rw [<- yAc c h1 h2];rcases ht : rtable f c with _ | _
 ·rfl
 simp only [Bool.true_eq_false, if_false, if_true];by_cases hk : c.k = 3
 ·have hk' : ¬ c.k ≠ 3 := by simpa using hk
  rw [if_neg hk', if_neg hk'];by_cases hc : Cs.courseE c.c = 0
  ·have hc' : ¬ Cs.courseE c.c ≠ 0 := by simpa using hc
   rw [if_neg hc']
  have e := yC9 (dx := run f c) hv hc;rw [if_pos hc, if_pos (by rw [e]; exact hc), e]
 rw [if_pos hk, if_pos hk]
theorem y0z {f : Fd} {c : Ca} (h : callG f c = 0) : there f c = true /\ ordered c = true /\ bare c = true /\ (c.k = 3 -> (Cs.comF f.va [c.c] (run f c)).2 = 0 /\ (Cs.comF f.va [c.c] (run f c)).1.2.2 = true) := by
 unfold callG at h;split at h
 ·rename_i hc;simp only [Bool.and_eq_true] at hc;refine ⟨hc.1.1, hc.1.2, hc.2, fun hk => ?_⟩;rw [if_neg (by simpa using hk)] at h;split at h
  ·rename_i h2; exact absurd h h2
  rename_i h2;split at h
  ·rename_i h3; exact ⟨by omega, h3⟩
  omega
 omega
theorem yA6 {c : Ca} (h : ordered c = true) : c.k = 1 ∨ c.k = 2 ∨ c.k = 3 ∨ c.k = 4 ∨ c.k = 5 := by
 unfold ordered at h;by_cases k1 : c.k = 1
 ·exact .inl k1
 by_cases k2 : c.k = 2
 ·exact .inr (.inl k2)
 by_cases k3 : c.k = 3 ∨ c.k = 5
 ·rcases k3 with k | k
  ·exact .inr (.inr (.inl k))
  exact .inr (.inr (.inr (.inr k)))
 by_cases k4 : c.k = 4
 ·exact .inr (.inr (.inr (.inl k4)))
 rw [if_neg k1, if_neg k2, if_neg k3, if_neg k4] at h; cases h
def near (a b m : Int) : Bool := decide (a - b <= m) && decide (b - a <= m)
def evenA (f : Fd) (c : Ca) (y : List Int) : Nat -> Int -> Bool
 | 0, _ => true
 | n + 1, s => decide (at_ y (pt f c.l s) = at_ y (pt f c.o s)) && evenA f c y n (s + 1)
def rallow (f : Fd) (c : Ca) (y : List Int) : Bool :=
 if c.k = 1 then near (at_ y (pt f c.l c.a)) c.s c.e
 else if c.k = 2 then near (at_ y (pt f c.o c.a) - at_ y (pt f c.l c.a)) c.s c.e
 else if c.k = 5 then near (at_ y (pt f c.l c.b) - at_ y (pt f c.l c.a)) c.s c.e
 else if c.k = 3 then (Cs.fitsF f.va c.c (run f c) (at_ y (pt f c.l c.b) - at_ y (pt f c.l c.a))).1
 else evenA f c y (c.b - c.a + 1).toNat c.a
theorem y9k (f : Fd) (c : Ca) (y : List Int) : ∀ (n : Nat) (s : Int), ((gapAlong f c n s).flatMap (pairB 0)).all (keepsB y) = evenA f c y n s
  | 0, _ => rfl
  | n + 1, s => by
    rw [gapAlong, List.flatMap_cons, List.all_append, y9k f c y n (s + 1), evenA];congr 1;rw [Bool.eq_iff_iff];simp [pairB, keepsB];omega
theorem y9J {f : Fd} {y : List Int} (hd : drw f y = true) {l s : Int} (hl : isIx l f.li.length = true) (hs : isIx s f.st.length = true) : 0 <= at_ y (pt f l s) /\ at_ y (pt f l s) <= 100000 := by
 simp only [isIx, decide_eq_true_eq] at hl hs;obtain ⟨i, rfl⟩ : ∃ i : Nat, l = i := ⟨l.toNat, by omega⟩;obtain ⟨j, rfl⟩ : ∃ i : Nat, s = i := ⟨s.toNat, by omega⟩;have := ((y4u.1 hd).2.2 i j (by omega) (by omega)).1;have e : pt f i j = ((1 + i * f.st.length + j : Nat) : Int) := by unfold pt; simp
 rw [e];exact this
theorem y1p {f : Fd} {c : Ca} {y : List Int} (hc : callG f c = 0) (hd : drw f y = true) : rallow f c y = (bnds f c 0).all (keepsB y) := by
 obtain ⟨ht, ho, hb, h3⟩ := y0z hc;have hy0 := (y4u.1 hd).2.1;unfold rallow bnds gapsF;rcases yA6 ho with k | k | k | k | k
 ·rw [if_pos k, if_pos k, Bool.eq_iff_iff];simp only [near, pairB, keepsB, List.flatMap_cons, List.flatMap_nil, List.append_nil, List.all_cons, List.all_nil, Bool.and_true, Bool.and_eq_true, decide_eq_true_eq, hy0];omega
 ·rw [if_neg (by omega), if_pos k, if_neg (by omega), if_pos k, Bool.eq_iff_iff];simp only [near, pairB, keepsB, List.flatMap_cons, List.flatMap_nil, List.append_nil, List.all_cons, List.all_nil, Bool.and_true, Bool.and_eq_true, decide_eq_true_eq];omega
 ·obtain ⟨e1, e2⟩ := h3 k;have he : Cs.eastE f.va [c.c] (run f c) = 0 := by
   rcases Int.decEq (Cs.eastE f.va [c.c] (run f c)) 0 with h | h
   ·rw [Cs.y35 h] at e1; exact absurd e1 h
   exact h
  have hcz := Cs.y5c he;simp only [there, Bool.and_eq_true] at ht;have a1 := y9J hd ht.1.1.1.1.1 ht.1.1.2;have a2 := y9J hd ht.1.1.1.1.1 ht.1.1.1.2;have hf := Cs.yCC he (y := at_ y (pt f c.l c.b) - at_ y (pt f c.l c.a)) (by omega) (by omega);rw [if_neg (by omega), if_neg (by omega), if_neg (by omega), if_pos k, if_neg (by omega), if_neg (by omega), if_pos k, hf, hcz, Bool.eq_iff_iff];rw [hcz] at e2;dsimp only at e2 ⊢;rw [e2];simp only [pairB, keepsB, List.flatMap_cons, List.flatMap_nil, List.append_nil, List.all_cons, List.all_nil, Bool.and_true, Bool.true_and, Bool.and_eq_true, decide_eq_true_eq];omega
 ·rw [if_neg (by omega), if_neg (by omega), if_neg (by omega), if_neg (by omega), if_neg (by omega), if_neg (by omega), if_neg (by omega), if_neg (by omega), y9k]
 rw [if_neg (by omega), if_neg (by omega), if_pos k, if_neg (by omega), if_neg (by omega), if_neg (by omega), if_pos k, Bool.eq_iff_iff];simp only [near, pairB, keepsB, List.flatMap_cons, List.flatMap_nil, List.append_nil, List.all_cons, List.all_nil, Bool.and_true, Bool.and_eq_true, decide_eq_true_eq];omega
end Dd
end
end Go.Proofs.YtccikcpcfdjobaaGreatDoor
