/-
  Needless.
-/
import Derived.Test.YteiaofgkmgllcaaNeda
import Derived.Deep.RegionHeld
import Derived.Test.YteiaofgkmgllcaaSettle
import Derived.Test.YteiaofgkmgllcaaSpan
import Derived.Test.YteiaofgkmgllcaaSome
import Derived.WalkMore
import Derived.Shelf.Slices.Cells
set_option linter.unusedVariables false
set_option linter.unusedSimpArgs false
namespace Go.Proofs.Yteiaofgkmgllcaa
open Go.RowKit Go.Shelf Go.Sort

namespace Ln
def kill (bs : List Bd) (x : Nat) : List Bd := bs.set x { bd bs x with gone := true }
theorem kill_length (bs : List Bd) (x : Nat) : (kill bs x).length = bs.length := by simp [kill]
theorem kill_bd {bs : List Bd} {x : Nat} (i : Nat) : (bd (kill bs x) i).f = (bd bs i).f ∧ (bd (kill bs x) i).t = (bd bs i).t ∧ (bd (kill bs x) i).m = (bd bs i).m ∧ (bd (kill bs x) i).r = (bd bs i).r ∧ ((bd (kill bs x) i).gone = if i = x ∧ x < bs.length then true else (bd bs i).gone) := by
  by_cases hi : i < bs.length
  · rw [bd_eq (bs := kill bs x) (by rw [kill_length]; exact hi)]
    unfold kill
    rw [List.getElem_set]
    by_cases e : x = i
    · subst e
      simp [hi]
    · rw [if_neg e, bd_eq hi]
      simp [show ¬ i = x from fun h => e h.symm]
  · unfold bd kill
    simp [hi]
    intro h1
    omega
theorem kill_ok {N : Nat} {bs : List Bd} (hok : Ok N bs) (x : Nat) : Ok N (kill bs x) := by
  refine ⟨hok.pos, hok.top, by rw [kill_length]; exact hok.len, fun b hb => ?_⟩
  obtain ⟨i, hi, rfl⟩ := List.getElem_of_mem hb
  rw [kill_length] at hi
  have h := kill_bd (bs := bs) (x := x) i
  rw [bd_eq (bs := kill bs x) (by rw [kill_length]; exact hi)] at h
  rw [h.1, h.2.1, h.2.2.1]
  exact hok.each _ (bd_mem hi)
theorem idx_kill {bs : List Bd} {x : Nat} (hx : x < bs.length) (p : Nat) : idx (kill bs x) p = (idx bs p).filter fun i => !(i == x) := by
  unfold idx idxk
  rw [kill_length, List.filter_filter]
  refine List.filter_congr fun i _ => ?_
  have h := kill_bd (bs := bs) (x := x) i
  rw [h.1, h.2.2.2.2]
  by_cases e : i = x
  · simp [e, hx]
  · simp [e]
theorem idx_kill_other {bs : List Bd} {x p : Nat} (hx : x < bs.length) (hp : (bd bs x).f ≠ p) : idx (kill bs x) p = idx bs p := by
  rw [idx_kill hx, List.filter_eq_self]
  intro i hi
  have : i ≠ x := fun e => hp (by rw [← e]; exact (idx_lt hi).2)
  simpa using this
/-- One bound looked at: out it goes if the others imply it. -/
def needS (N : Nat) (s : List Bd × List Nat) (x : Nat) : List Bd × List Nat :=
  if gt (distF (kill s.1 x) N (bd s.1 x).f.toNat) (bd s.1 x).t.toNat ≤ (bd s.1 x).m then (kill s.1 x, s.2 ++ [x]) else s
def needK (bs : List Bd) (N : Nat) (l : List Nat) : List Bd × List Nat := l.foldl (needS N) (bs, [])
theorem needK_snoc (bs : List Bd) (N : Nat) (l : List Nat) (x : Nat) : needK bs N (l ++ [x]) = needS N (needK bs N l) x := by simp [needK]
/-- What stays the same in every state. -/
theorem needK_same {bs : List Bd} {N : Nat} (hok : Ok N bs) (l : List Nat) : Ok N (needK bs N l).1 ∧ (needK bs N l).1.length = bs.length ∧ (needK bs N l).2.length ≤ l.length ∧
    ∀ i, (bd (needK bs N l).1 i).f = (bd bs i).f ∧ (bd (needK bs N l).1 i).t = (bd bs i).t ∧ (bd (needK bs N l).1 i).m = (bd bs i).m ∧ (bd (needK bs N l).1 i).r = (bd bs i).r := by
  have : ∀ (r : List Nat), Ok N (needK bs N r.reverse).1 ∧ (needK bs N r.reverse).1.length = bs.length ∧ (needK bs N r.reverse).2.length ≤ r.length ∧
      ∀ i, (bd (needK bs N r.reverse).1 i).f = (bd bs i).f ∧ (bd (needK bs N r.reverse).1 i).t = (bd bs i).t ∧ (bd (needK bs N r.reverse).1 i).m = (bd bs i).m ∧ (bd (needK bs N r.reverse).1 i).r = (bd bs i).r := by
    intro r
    induction r with
    | nil => exact ⟨hok, rfl, Nat.le_refl _, fun i => ⟨rfl, rfl, rfl, rfl⟩⟩
    | cons x r ih =>
      rw [List.reverse_cons, needK_snoc, needS]
      split
      · refine ⟨kill_ok ih.1 x, by rw [kill_length]; exact ih.2.1, by simp; exact ih.2.2.1, fun i => ?_⟩
        have h := kill_bd (bs := (needK bs N r.reverse).1) (x := x) i
        have h2 := ih.2.2.2 i
        exact ⟨h.1.trans h2.1, h.2.1.trans h2.2.1, h.2.2.1.trans h2.2.2.1, h.2.2.2.1.trans h2.2.2.2⟩
      · exact ⟨ih.1, ih.2.1, Nat.le_succ_of_le ih.2.2.1, ih.2.2.2⟩
  have h := this l.reverse
  rw [List.reverse_reverse, List.length_reverse] at h
  exact h
/-- Needless, errors and all. -/
def ndF (N : Int) (bs : List Bd) : List Nat × Int :=
  if soundF N bs [] = 0 then ((needK bs N.toNat ((List.range bs.length).map fun j => bs.length - 1 - j)).2.reverse, 0) else ([], soundF N bs [])
end Ln

theorem bcells_same {bs cs : List Ln.Bd} (hl : cs.length = bs.length) (h : ∀ i, (Ln.bd cs i).f = (Ln.bd bs i).f ∧ (Ln.bd cs i).t = (Ln.bd bs i).t ∧ (Ln.bd cs i).m = (Ln.bd bs i).m ∧ (Ln.bd cs i).r = (Ln.bd bs i).r) : bcells cs = bcells bs := by
  have : ∀ (bs cs : List Ln.Bd), cs.length = bs.length → (∀ i, (Ln.bd cs i).f = (Ln.bd bs i).f ∧ (Ln.bd cs i).t = (Ln.bd bs i).t ∧ (Ln.bd cs i).m = (Ln.bd bs i).m ∧ (Ln.bd cs i).r = (Ln.bd bs i).r) → bcells cs = bcells bs := by
    intro bs
    induction bs with
    | nil => intro cs hl _; rw [List.eq_nil_of_length_eq_zero hl]
    | cons b bs ih =>
      intro cs hl h
      cases cs with
      | nil => simp at hl
      | cons c cs =>
        have h0 := h 0
        simp only [Ln.bd, List.getD_cons_zero] at h0
        rw [show bcells (c :: cs) = bcell c ++ bcells cs from rfl, show bcells (b :: bs) = bcell b ++ bcells bs from rfl, ih cs (by simpa using hl) (fun i => by
          have := h (i + 1)
          simpa [Ln.bd] using this)]
        simp [bcell, h0.1, h0.2.1, h0.2.2.1, h0.2.2.2]
  exact this bs cs hl h

attribute [local go_sem] Oper.semAt_some

theorem wpIn_region_held_round {P : Program} {id lr m : Nat} {Q : Exit → Act → World → Prop} {a : Act} {w : World} {l : List Oper} (S : World → Prop) (hm : P.follows .mixedOrders = true) (hd : noDefer l = true) (hQ : ¬ LetsOut Q)
    (h : wpAnyH P .any l.toArray Q S l.toArray.size (Array.replicate l.toArray.size false) a w.drew) : (Code.region id l.toArray true).wpIn (Fence.wide.inRound lr) m P Q a w :=
  wpIn_region_any hm (wpAnyIn_of_plain (noDefer_spec hd) hQ _ _ _ _ (wpAny_of_held _ _ _ _ h))

theorem grownBy_alloc2 (w : World) (o o' : Obj) : w.grownBy ((w.alloc o).alloc o') none := (World.grownBy_alloc w o none).trans (World.grownBy_alloc _ o' none)
/-- The lists of a net lie apart from a list that grows, and from where it is kept. -/
def Sep (fr : List Value) (O : Value) (lb : Nat) : Prop := ∀ (p : Nat) (A' : Option Addr) (n c' : Nat), fr[p]? = some (.slice A' n c') → 0 < n → ∀ a, A' = some a → a.block ≠ lb ∧ O.ownBlock ≠ some a.block
theorem isNet_apart {W W' : World} {row : Option Nat} {nb N : Nat} {bs : List Ln.Bd} {A : Option Addr} {c : Nat} {fr : List Value} (h : IsNet W W.heap.size nb N bs A c fr) (hg : W.grownBy W' row) (hnb : some nb ≠ row) (hA : ∀ a, A = some a → 0 < bs.length → some a.block ≠ row)
    (hr : ∀ (p : Nat) (A' : Option Addr) (n c' : Nat), fr[p]? = some (.slice A' n c') → 0 < n → ∀ a, A' = some a → some a.block ≠ row) : IsNet W' W'.heap.size nb N bs A c fr := by
  have keep : ∀ {B size n : Nat} {A : Option Addr} {xs : List Value}, Rd W B size A n xs → B ≤ W.heap.size → (∀ a, A = some a → 0 < n → some a.block ≠ row) → Rd W' W'.heap.size size A n xs := fun {B size n A xs} hR hB hne => by
    refine ⟨hR.1, fun hn => ?_⟩
    obtain ⟨b, off, e, hb, hc⟩ := hR.2 hn
    have hz := hg.size
    refine ⟨b, off, e, by omega, fun j hj => ?_⟩
    rw [World.cell?_of_block (hg.block b (by omega) (hne _ e hn))]
    exact hc j hj
  refine ⟨Nat.lt_of_lt_of_le h.lt hg.size, (hg.block nb h.lt hnb).trans h.blk, h.len, keep h.bounds (Nat.le_refl _) (fun a e hn => hA a e hn), fun p v hv => ?_⟩
  obtain ⟨A', c', rfl, hrd⟩ := h.rows p v hv
  exact ⟨A', c', rfl, keep hrd (Nat.le_refl _) (fun a e hn => hr p A' _ c' hv hn a e)⟩
theorem sep_set {fr : List Value} {O : Value} {lb f n c' : Nat} {A' : Option Addr} (h : Sep fr O lb) (hn : ∀ a, A' = some a → a.block ≠ lb ∧ O.ownBlock ≠ some a.block) : Sep (fr.set f (.slice A' n c')) O lb := fun p B m d hp hm a e => by
  rw [List.getElem?_set] at hp
  by_cases e' : f = p
  · rw [if_pos e'] at hp
    split at hp
    · cases hp
      exact hn a e
    · cases hp
  · rw [if_neg e'] at hp
    exact h p B m d hp hm a e

/-- What Needless's loop keeps: the net with what was taken out, and the list of it. -/
def NeedI (bs : List Ln.Bd) (M : Nat) (A : Option Addr) (c nb lb base : Nat) (pre : List Nat) (W : World) : Prop :=
  ∃ fr O, IsNet W W.heap.size nb M (Ln.needK bs M pre).1 A c fr ∧ (∀ (p : Nat) (v : Value) (g : Nat), fr[p]? = some v → v.ownBlock = some g → nb < g) ∧
    Bk W lb 25 #[O] ∧ W.ownsRow base 3 1 O (Ln.needK bs M pre).2.length (nlist (Ln.needK bs M pre).2) ∧ ((Ln.needK bs M pre).2 = [] → O = .slice none 0 0) ∧ Sep fr O lb
theorem needI_own {bs0 : List Ln.Bd} (bs : List Ln.Bd) (M : Nat) (A : Option Addr) (c nb lb base B : Nat) : OwnFrom B (fun (pre : List (Iy bs0)) W => NeedI bs M A c nb lb base (pre.map Subtype.val) W) := by
  rintro pre W W' row ⟨fr, O, h1, h2, h3, h4, h5, h6⟩ hg hr
  exact ⟨fr, O, isNet_grown h1 hg (fun r e => (hr r e).2), h2, own_bk B lb 25 (fun (_ : Unit) => #[O]) () W W' row h3 hg hr, own_cells h4 hg (fun r e => (hr r e).2), h5, h6⟩

section
variable (N : Int) (A : Option Addr) (c : Nat) (bs : List Ln.Bd) (w : World)

set_option maxRecDepth 100000 in
set_option maxHeartbeats 4000000 in
theorem needless_any (hR : Rd w w.heap.size 4 A bs.length (bcells bs)) (hc : Ln.Lv bs) :
    Calls Try.prog 30 #[.agg #[.int .i64 N, .slice A bs.length c]] w fun e w' => ∃ A' c', e = .returned (.tuple #[.slice A' (Ln.ndF N bs).1.length c', .int .i64 (Ln.ndF N bs).2]) ∧
      Rd w' w'.heap.size 1 A' (Ln.ndF N bs).1.length (nlist (Ln.ndF N bs).1) ∧ Below w.heap.size w w' := by
  have hB0 : Below w.heap.size w (w.alloc (.cells #[.int .i64 N, .slice A bs.length c] 24)) := (Below.refl _ _).alloc (Nat.le_refl _) _
  have hR1 := (hR.below hB0 (Nat.le_refl _)).more hB0.size
  have kS := Bk.new w 24 #[.int .i64 N, .slice A bs.length c]
  obtain ⟨r, hr⟩ : ∃ r, Ln.ndF N bs = r := ⟨_, rfl⟩
  rw [hr]
  rw [Ln.ndF] at hr
  have hm : Try.prog.follows .mixedOrders = true := by kernel_rfl
  obtain ⟨i0, hi0, hiz, hi1, hi2⟩ := info_parts info3
  have hP1 := Rd.nil (w.alloc (.cells #[.int .i64 N, .slice A bs.length c] 24)) (w.alloc (.cells #[.int .i64 N, .slice A bs.length c] 24)).heap.size 1 none
  by_cases hs : Ln.soundF N bs [] = 0
  · rw [if_pos hs] at hr
    obtain ⟨hok, hN⟩ := Ln.ok_of_check (Ln.cpF_zero (soundF_zero hs).1)
    obtain ⟨M, rfl⟩ : ∃ M : Nat, N = M := ⟨N.toNat, by omega⟩
    rw [Int.toNat_natCast] at hok hr
    have HS := Lib.hid hs
    have HRR := Lib.hid hr
    clear hs hr hN
    refine (callsIn_wide (n := 3)).1 ?_
    refine callsIn_of_wp_marks Try.func30 rfl trivial ?_ rfl
    simp only [Try.ntmps30, List.size_toArray, List.length_cons, List.length_nil, Nat.reduceAdd, Nat.reduceSub, Array.replicate_succ, Array.replicate_zero, List.push_toArray, List.append_toArray, List.nil_append, List.cons_append]
    gi_wp2_with (first
      | (refine ⟨trivial, ?_⟩; gi_at_call 44; refine (callsIn_wide.2 (sound_new M A c bs none 0 [] _ hR1 hc hP1 (by simp) (soundF_zero HS.out).1 (soundF_zero HS.out).2)).mono ?_; rintro e w1 ⟨nb, fr, rfl, hNt, hb1, hnbw, hap⟩; have hNt := (Int.toNat_natCast M) ▸ hNt; rw [World.size_alloc] at hnbw; have kS1 := kS.below hb1 (by simp); have d1 := kS1.cell 1; have hSl := kS1.lt)
      | (refine ⟨trivial, ?_⟩; gi_at_call 58; refine (backward_in _ A bs.length c _).mono ?_; rintro e w' ⟨rfl, rfl⟩))
    have hnbB := hNt.lt
    have hB1 := hB0.trans (hb1.mono hB0.size)
    have hz0 := hB1.size
    have kn := ((Bk.new w1 64 #[.pointer (some ⟨nb, 0, none⟩)]).alloc (.cells #[.slice none 0 0] 25)).alloc (.cells #[.slice A bs.length c] 22)
    have kl := (Bk.new (w1.alloc (.cells #[.pointer (some ⟨nb, 0, none⟩)] 64)) 25 #[.slice none 0 0]).alloc (.cells #[.slice A bs.length c] 22)
    have kq := Bk.new ((w1.alloc (.cells #[.pointer (some ⟨nb, 0, none⟩)] 64)).alloc (.cells #[.slice none 0 0] 25)) 22 #[.slice A bs.length c]
    have e1 : (w1.alloc (.cells #[.pointer (some ⟨nb, 0, none⟩)] 64)).heap.size = w1.heap.size + 1 := by simp
    have e2 : ((w1.alloc (.cells #[.pointer (some ⟨nb, 0, none⟩)] 64)).alloc (.cells #[.slice none 0 0] 25)).heap.size = w1.heap.size + 1 + 1 := by simp
    have e3 : (((w1.alloc (.cells #[.pointer (some ⟨nb, 0, none⟩)] 64)).alloc (.cells #[.slice none 0 0] 25)).alloc (.cells #[.slice A bs.length c] 22)).heap.size = w1.heap.size + 1 + 1 + 1 := by simp
    have hBW : RowKit.Below w1.heap.size w1 (((w1.alloc (.cells #[.pointer (some ⟨nb, 0, none⟩)] 64)).alloc (.cells #[.slice none 0 0] 25)).alloc (.cells #[.slice A bs.length c] 22)) :=
      (((Below.refl _ w1).alloc (Nat.le_refl _) _).alloc (by omega) _).alloc (by omega) _
    rw [e1] at kl
    rw [e2] at kq
    obtain ⟨W0, hW0⟩ : ∃ W0, ((w1.alloc (.cells #[.pointer (some ⟨nb, 0, none⟩)] 64)).alloc (.cells #[.slice none 0 0] 25)).alloc (.cells #[.slice A bs.length c] 22) = W0 := ⟨_, rfl⟩
    have hN0 := isNet_below hNt (hW0 ▸ hBW)
    rw [hW0] at kn kl kq hBW e3 ⊢
    have hBW0 := hB1.trans (hBW.mono hz0)
    obtain ⟨kb, hkb⟩ : ∃ kb, w1.heap.size = kb := ⟨_, rfl⟩
    have hkbe := hkb
    rw [hkb] at kn kl kq hnbB hBW e3 hz0 ⊢
    have hsz : kb + 3 ≤ W0.heap.size := by omega
    have hsep0 : Sep fr (.slice none 0 0) (kb + 1) := fun p A' n c' hp hn a e => by
      obtain ⟨A'', c'', e', hrd⟩ := hNt.rows p _ hp
      cases e'
      obtain ⟨b, off, e2, hb, _⟩ := hrd.2 hn
      rw [e] at e2
      cases e2
      rw [hkbe] at hb
      exact ⟨by simp only; omega, by simp [Value.ownBlock]⟩
    have hlen2 := hok.len
    have hR0 := hR.below hBW0 (Nat.le_refl _)
    have HOK := Lib.hid hok
    have HAP := Lib.hid hap
    clear hW0 hkb hkbe e1 e2 e3 hok hap hNt hb1 d1 hSl kS1
    refine wpIn_rangeFunc_ownH (F := Fence.wide) (n := 3) rfl (by omega) (gf := 84) (lb := #[.pointer (some ⟨kb + 1 + 1, 0, none⟩)]) rfl trivial (enters_of Try.func84 (by kernel_rfl) rfl)
      (backward_stops 2 (by omega) (kb + 1 + 1) W0.heap.size w.heap.size (fun j => j = nb ∨ j = kb + 1) bs A c (by omega) (fun j hj e => by omega) (by omega) (fun e => by omega) hlen2 W0 (Nat.le_refl _) kq hR0)
      keepX_t (keepX_b (Nat.le_refl _)) (Below.refl _ _) (fun _ => rfl)
      (fun pre W' => NeedI bs M A c nb (kb + 1) W0.heap.size (pre.map Subtype.val) W' ∧ KeepX W0.heap.size (fun j => j = nb ∨ j = kb + 1) W0 W')
      (fun _ _ _ => False)
      (OwnFrom.and (needI_own _ _ _ _ _ _ _ _) (own_keepX (Nat.le_refl _) (Nat.le_refl _)))
      (fun _ _ _ _ _ hs _ _ => hs)
      ⟨⟨fr, .slice none 0 0, hN0, HAP.out, kl, ⟨rfl, .inl ⟨rfl, rfl⟩⟩, fun _ => rfl, hsep0⟩, KeepX.refl _ _ _⟩
      (fun x a' W' => ∃ ib Bx, W0.heap.size ≤ ib ∧ W0.heap.size ≤ Bx ∧ Bk W' ib 3 #[.int .i64 (x.1 : Int)] ∧ Bk W' Bx 50 #[.int .i64 (Ln.bd bs x.1).f, .int .i64 (Ln.bd bs x.1).t, .int .i64 (Ln.bd bs x.1).m, .int .i64 (Ln.bd bs x.1).r] ∧ a' = { tmps := (Value.agg #[.int .i64 (M : Int), .slice A bs.length c] :: Value.pointer (some ⟨w.heap.size, 0, none⟩) :: Value.slice none 0 0 :: Value.int .i64 0 :: Value.pointer (some ⟨kb, 0, none⟩) :: Value.int .i64 0 :: Value.pointer (some ⟨kb + 1, 0, none⟩) :: Value.pointer (some ⟨ib, 0, none⟩) :: Value.pointer (some ⟨Bx, 0, none⟩) :: undef :: Value.tuple #[.pointer (some ⟨nb, 0, none⟩), .int .i64 0] :: Value.agg #[.int .i64 (M : Int), .slice A bs.length c] :: Value.tuple #[.pointer (some ⟨nb, 0, none⟩), .int .i64 0] :: Value.pointer (some ⟨nb, 0, none⟩) :: Value.int .i64 0 :: Value.int .i64 0 :: Value.bool false :: undef :: Value.pointer (some ⟨w.heap.size, 1, none⟩) :: Value.slice A bs.length c :: Value.func (.func 84) #[] #[.pointer (some ⟨kb + 1 + 1, 0, none⟩)] :: Value.int .i64 (x.1 : Int) :: Value.agg #[.int .i64 (Ln.bd bs x.1).f, .int .i64 (Ln.bd bs x.1).t, .int .i64 (Ln.bd bs x.1).m, .int .i64 (Ln.bd bs x.1).r] :: undef :: undef :: undef :: undef :: undef :: undef :: undef :: undef :: undef :: undef :: undef :: undef :: undef :: undef :: undef :: undef :: undef :: undef :: undef :: undef :: undef :: undef :: undef :: undef :: undef :: undef :: undef :: undef :: undef :: undef :: undef :: undef :: undef :: undef :: undef :: undef :: undef :: undef :: undef :: undef :: undef :: []).toArray, defers := [] })
      (fun x a' _ X Y row hs hg hr => by obtain ⟨ib, Bx, h0, h1, h2, h3, h4⟩ := hs; exact ⟨ib, Bx, h0, h1, own_bk W0.heap.size ib 3 (fun (_ : Unit) => _) () X Y row h2 hg hr, own_bk W0.heap.size Bx 50 (fun (_ : Unit) => _) () X Y row h3 hg hr, h4⟩)
      ?assign ?body ?done ?stop
    case assign =>
      rintro l pre x W' KK ⟨i1, i3⟩ hKK
      dsimp only [iyv]
      gi_wp2_with (fail)
      refine hKK _ _ (((KeepsOthers.alloc _ _).trans (KeepsOthers.alloc _ _)).from _) (((KeepX.refl _ _ _).alloc i3.size _).alloc (by rw [World.size_alloc]; have := i3.size; omega) _) ⟨needI_own bs M A c nb (kb + 1) W0.heap.size 0 pre _ _ none i1 (grownBy_alloc2 _ _ _) (fun r e => by cases e), (i3.alloc i3.size _).alloc (by rw [World.size_alloc]; have := i3.size; omega) _⟩ ⟨W'.heap.size, W'.heap.size + 1, i3.size, by have := i3.size; omega, (Bk.new W' 3 #[.int .i64 (x.1 : Int)]).alloc _, ?_, rfl⟩
      have := Bk.new (W'.alloc (.cells #[.int .i64 (x.1 : Int)] 3)) 50 #[.int .i64 (Ln.bd bs x.1).f, .int .i64 (Ln.bd bs x.1).t, .int .i64 (Ln.bd bs x.1).m, .int .i64 (Ln.bd bs x.1).r]
      rw [World.size_alloc] at this
      exact this
    case body =>
      rintro l pre x a' W' hl' ⟨r', hr'⟩ ⟨⟨fr', O, hN', hAP', hL', hO', hnil', hsep'⟩, i3⟩ ⟨ib, Bx, hib, hBx, kI, kX, rfl⟩ hltp
      obtain ⟨i, hi⟩ := x
      have hsm := Ln.needK_same HOK.out (pre.map Subtype.val)
      have hsn := Ln.needK_snoc bs M (pre.map Subtype.val) i
      obtain ⟨s, hs⟩ : ∃ s, Ln.needK bs M (pre.map Subtype.val) = s := ⟨_, rfl⟩
      rw [hs] at hN' hO' hnil' hsm hsn
      obtain ⟨cs, L⟩ := s
      simp only at hN' hO' hnil' hsm hsn
      obtain ⟨hokc, hcl, hLl, hsame⟩ := hsm
      rw [List.length_map] at hLl
      have hbi := HOK.out.each _ (Ln.bd_mem hi)
      have htop := HOK.out.top
      have hsi := hsame i
      obtain ⟨f, hf⟩ : ∃ f : Nat, (Ln.bd bs i).f = f := ⟨(Ln.bd bs i).f.toNat, by omega⟩
      obtain ⟨t, ht⟩ : ∃ t : Nat, (Ln.bd bs i).t = t := ⟨(Ln.bd bs i).t.toNat, by omega⟩
      obtain ⟨m, hmm⟩ : ∃ m, (Ln.bd bs i).m = m := ⟨_, rfl⟩
      rw [hf, ht, hmm] at hbi hsi
      have hfM : f < M := by omega
      have hf128 : (f : Int) < 128 := by omega
      have ht128 : (t : Int) < 128 := by omega
      have hf0 : (0 : Int) ≤ (f : Int) := Int.natCast_nonneg _
      have ht0 : (0 : Int) ≤ (t : Int) := Int.natCast_nonneg _
      have hkill := Ln.kill_ok hokc i
      have hds := (Ln.distF_small hkill f).2.at_ (k := t) (by have := (Ln.distF_small hkill f).1; omega)
      have hdl := (Ln.distF_small hkill f).1
      rw [Ln.needS] at hsn
      simp only [hsi.1, hsi.2.1, hsi.2.2.1, Int.toNat_natCast] at hsn
      obtain ⟨v, hv⟩ : ∃ v, fr'[f]? = some v := ⟨fr'[f]'(by rw [hN'.len]; omega), List.getElem?_eq_getElem _⟩
      obtain ⟨A1, c1, rfl, hrd1⟩ := hN'.rows f v hv
      have hi3s := i3.size
      have kN' := i3.bk kn (by omega) (fun e => by omega)
      have a1 := kN'.cell 0
      have a2 := (hN'.blk.cell (2 + f)).trans ((ncells_from _ _ _ _).trans hv)
      have x0 := kX.cell 0
      have x1 := kX.cell 1
      have x2 := kX.cell 2
      have y0 := kI.cell 0
      simp only [List.getElem?_toArray, List.getElem?_cons_zero, List.getElem?_cons_succ] at a1 x0 x1 x2 y0
      rw [hf] at x0
      rw [ht] at x1
      rw [hmm] at x2
      have hXl := kX.lt
      have hIl := kI.lt
      have hKl := kN'.lt
      have hNl := hN'.lt
      have hLb := hL'.lt
      have HSN := Lib.hid hsn
      have HV := Lib.hid hv
      have HAP2 := Lib.hid hAP'
      have HSAME := Lib.hid hsame
      have HMT := Lib.hid (And.intro hf (And.intro ht hmm))
      have HDS := Lib.hid hds
      have HDL := Lib.hid hdl
      have HNIL := Lib.hid hnil'
      have HSEP := Lib.hid hsep'
      clear hsn hv hAP' hsame hf ht hmm hbi hsi hs hds hdl hnil' hsep'
      gi_wp2_with (fail)
      refine wpIn_region_quiet_round (F := Fence.wide) rfl (by kernel_rfl) (by kernel_rfl) (by kernel_rfl) ?_
      repeat (gi_big_quiet_step (fail))
      refine wpQuietIn_nil ?_
      intro _ hw'
      obtain ⟨nq1, hw''⟩ := hw'
      subst hw''
      gi_wp2_with (fail)
      obtain ⟨V, hVV⟩ : ∃ V, (W'.drewN nq1).drew = V := ⟨_, rfl⟩
      have hSV : V.cell? ⟨kb, 0, none⟩ = some (.pointer (some ⟨nb, 0, none⟩)) ∧ V.cell? ⟨Bx, 0, none⟩ = some (.int .i64 f) := by rw [← hVV]; exact ⟨a1, x0⟩
      refine wpIn_region_held_round (fun V => V.cell? ⟨kb, 0, none⟩ = some (.pointer (some ⟨nb, 0, none⟩)) ∧ V.cell? ⟨Bx, 0, none⟩ = some (.int .i64 f)) (by kernel_rfl) (by kernel_rfl) (fun ⟨_, _, h⟩ => h) ?_
      rw [hVV]
      (refine wpAnyH_take (i := 0) (v := ?_) rfl (by kernel_rfl) (by kernel_rfl) (by kernel_rfl) (fun _ _ _ h => h) (Or.inl ⟨by rfl, ?_⟩) hSV ?_; rotate_left 1; focus (intro w hSw; (try dsimp only at hSw); go_simp; all_goals (with_reducible rfl)); (try simp only [Act.put, List.setIfInBounds_toArray, List.set_cons_zero, List.set_cons_succ]))
      (refine wpAnyH_take (i := 1) (v := ?_) rfl (by kernel_rfl) (by kernel_rfl) (by kernel_rfl) (fun _ _ _ h => h) (Or.inl ⟨by rfl, ?_⟩) hSV ?_; rotate_left 1; focus (intro w hSw; (try dsimp only at hSw); go_simp; all_goals (with_reducible rfl)); (try simp only [Act.put, List.setIfInBounds_toArray, List.set_cons_zero, List.set_cons_succ]))
      (refine wpAnyH_take (i := 2) (v := ?_) rfl (by kernel_rfl) (by kernel_rfl) (by kernel_rfl) (fun _ _ _ h => h) (Or.inl ⟨by rfl, ?_⟩) hSV ?_; rotate_left 1; focus (intro w hSw; (try dsimp only at hSw); go_simp; all_goals (with_reducible rfl)); (try simp only [Act.put, List.setIfInBounds_toArray, List.set_cons_zero, List.set_cons_succ]))
      (refine wpAnyH_take (i := 3) (v := ?_) rfl (by kernel_rfl) (by kernel_rfl) (by kernel_rfl) (fun _ _ _ h => h) (Or.inl ⟨by rfl, ?_⟩) hSV ?_; rotate_left 1; focus (intro w hSw; (try dsimp only at hSw); go_simp; all_goals (with_reducible rfl)); (try simp only [Act.put, List.setIfInBounds_toArray, List.set_cons_zero, List.set_cons_succ]))
      (refine wpAnyH_take (i := 5) (v := ?_) rfl (by kernel_rfl) (by kernel_rfl) (by kernel_rfl) (fun _ _ _ h => h) (Or.inl ⟨by rfl, ?_⟩) hSV ?_; rotate_left 1; focus (intro w hSw; (try dsimp only at hSw); go_simp; all_goals (with_reducible rfl)); (try simp only [Act.put, List.setIfInBounds_toArray, List.set_cons_zero, List.set_cons_succ]))
      (refine wpAnyH_take (i := 7) (v := ?_) rfl (by kernel_rfl) (by kernel_rfl) (by kernel_rfl) (fun _ _ _ h => h) (Or.inl ⟨by rfl, ?_⟩) hSV ?_; rotate_left 1; focus (intro w hSw; (try dsimp only at hSw); go_simp; all_goals (with_reducible rfl)); (try simp only [Act.put, List.setIfInBounds_toArray, List.set_cons_zero, List.set_cons_succ]))
      (refine wpAnyH_take (i := 8) (v := ?_) rfl (by kernel_rfl) (by kernel_rfl) (by kernel_rfl) (fun _ _ _ h => h) (Or.inl ⟨by rfl, ?_⟩) hSV ?_; rotate_left 1; focus (intro w hSw; (try dsimp only at hSw); go_simp; all_goals (with_reducible rfl)); (try simp only [Act.put, List.setIfInBounds_toArray, List.set_cons_zero, List.set_cons_succ]))
      refine wpAnyH_ready (rs := [4]) (by kernel_rfl) (by simp) ?_
      refine AllReadyH.cons rfl (fun K hK => ?_) AllReadyH.nil
      rw [if_pos (by rfl)]
      go_simp
      have hbV : RowKit.Below W'.heap.size W' V := by rw [← hVV]; exact (below_drewN (Below.refl _ _) nq1).drew
      have hrdV : Rd V V.heap.size 1 A1 (Ln.idx cs f).length (nlist (Ln.idx cs f)) := by rw [← hVV]; exact hrd1
      have hil : (Ln.idx cs f).length ≤ 1000000 := by have := Ln.idxk_length cs cs.length f; unfold Ln.idx; omega
      refine (clone_any A1 c1 (Ln.idx cs f) V hrdV hil).mono ?_
      rintro e w3 ⟨A3, c3, rfl, hcap3, hfr3, hb3⟩
      have hzV : V.heap.size = W'.heap.size := by rw [← hVV]; rfl
      have hS3 : w3.cell? ⟨kb, 0, none⟩ = some (.pointer (some ⟨nb, 0, none⟩)) ∧ w3.cell? ⟨Bx, 0, none⟩ = some (.int .i64 f) :=
        ⟨(hb3.cell (p := ⟨kb, 0, none⟩) (by simp; omega)).trans hSV.1, (hb3.cell (p := ⟨Bx, 0, none⟩) (by simp; omega)).trans hSV.2⟩
      simp only []
      refine hK.out _ _ hS3 (fun _ => ?_)
      clear hK K
      (try simp only [Act.put, List.setIfInBounds_toArray, List.set_cons_zero, List.set_cons_succ])
      refine wpAnyH_ready (rs := [6]) (by kernel_rfl) (by simp) ?_
      refine AllReadyH.cons rfl (fun K hK => ?_) AllReadyH.nil
      rw [if_pos (by rfl)]
      go_simp
      have hto := takeOut_any A3 c3 (Ln.idx cs f) i ib V.heap.size w3 hfr3 hcap3 hil ((kI.below hbV kI.lt).below hb3 (by omega)) (by omega) hb3.size
      rw [← Ln.idx_kill (bs := cs) (x := i) (by omega) f] at hto
      refine hto.mono ?_
      clear hto
      rintro e w4 ⟨A4, c4, rfl, hrd4, hnew4, hb4⟩
      have hS4 : w4.cell? ⟨kb, 0, none⟩ = some (.pointer (some ⟨nb, 0, none⟩)) ∧ w4.cell? ⟨Bx, 0, none⟩ = some (.int .i64 f) :=
        ⟨(hb4.cell (p := ⟨kb, 0, none⟩) (by simp; omega)).trans hS3.1, (hb4.cell (p := ⟨Bx, 0, none⟩) (by simp; omega)).trans hS3.2⟩
      simp only []
      refine hK.out _ _ hS4 (fun _ => ?_)
      clear hK K
      (try simp only [Act.put, List.setIfInBounds_toArray, List.set_cons_zero, List.set_cons_succ])
      (refine wpAnyH_take (i := 9) (v := ?_) rfl (by kernel_rfl) (by kernel_rfl) (by kernel_rfl) (fun _ _ _ h => h) (Or.inl ⟨by rfl, ?_⟩) hS4 ?_; rotate_left 1; focus (intro w hSw; (try dsimp only at hSw); go_simp; all_goals (with_reducible rfl)); (try simp only [Act.put, List.setIfInBounds_toArray, List.set_cons_zero, List.set_cons_succ]))
      refine wpAnyH_ready (rs := [10]) (by kernel_rfl) (by simp) ?_
      refine AllReadyH.cons rfl (fun K hK => ?_) AllReadyH.nil
      rw [if_pos (by rfl)]
      have hbw4 : RowKit.Below W'.heap.size W' w4 := (hbV.trans (hb3.mono (by omega))).trans (hb4.mono (by omega))
      have hN4 := isNet_below hN' hbw4
      have b2 := (hN4.blk.cell (2 + f)).trans ((ncells_from _ _ _ _).trans HV.out)
      have bf := hN4.blk.frozen (2 + f)
      go_simp
      have hS5 : (w4.setCell ⟨nb, 2 + f, none⟩ (.slice A4 (Ln.idx (Ln.kill cs i) f).length c4)).cell? ⟨kb, 0, none⟩ = some (.pointer (some ⟨nb, 0, none⟩)) ∧ (w4.setCell ⟨nb, 2 + f, none⟩ (.slice A4 (Ln.idx (Ln.kill cs i) f).length c4)).cell? ⟨Bx, 0, none⟩ = some (.int .i64 f) :=
        ⟨(World.cell?_setCell_far _ _ _ _ (by simp; omega)).trans hS4.1, (World.cell?_setCell_far _ _ _ _ (by simp; omega)).trans hS4.2⟩
      refine hK.out _ _ hS5 (fun _ => ?_)
      clear hK K
      refine wpAnyH_done (by kernel_rfl) ?_ _
      (try simp only [Act.put, List.setIfInBounds_toArray, List.set_cons_zero, List.set_cons_succ])
      have hA4 : ∀ a, A4 = some a → W'.heap.size ≤ a.block := fun a e => by have := hnew4 a e; omega
      have hrow : ∀ a, A4 = some a → a.block ≠ nb := fun a e => by have := hnew4 a e; omega
      have hAne : ∀ a, A = some a → a.block ≠ nb := fun a e h => by
        obtain ⟨b, off, e', hb, _⟩ := hR.2 (by omega)
        rw [e] at e'
        cases e'
        simp only at h
        omega
      have hcb : bcells (Ln.kill cs i) = bcells cs := bcells_same (Ln.kill_length cs i) (fun j => let h := Ln.kill_bd (bs := cs) (x := i) j; ⟨h.1, h.2.1, h.2.2.1, h.2.2.2.1⟩)
      have hN5 := isNet_set (c2 := c4) hN4 (Ln.kill_length cs i) hcb (fun q hq => Ln.idx_kill_other (by omega) (by rw [(HSAME.out i).1, HMT.out.1]; omega)) (by omega : f < 128) HAP2.out hAne hrd4 hrow
      have hL4 := hL'.below hbw4 hLb
      have hL5 := hL4.far (p := ⟨nb, 2 + f, none⟩) (by simp; omega) (.slice A4 (Ln.idx (Ln.kill cs i) f).length c4)
      have hO5 := (own_below hO' hbw4).kept (grown_setCell w4 ⟨nb, 2 + f, none⟩ (.slice A4 (Ln.idx (Ln.kill cs i) f).length c4)) (own_offN hO' (by simp; omega))
      have hX5 : KeepX W0.heap.size (fun j => j = nb ∨ j = kb + 1) W' (w4.setCell ⟨nb, 2 + f, none⟩ (.slice A4 (Ln.idx (Ln.kill cs i) f).length c4)) := (KeepX.of_below (hbw4.mono (by omega)) _).setCell (p := ⟨nb, 2 + f, none⟩) (fun _ => .inl rfl) _
      have kX5 := (kX.below hbw4 hXl).far (p := ⟨nb, 2 + f, none⟩) (by simp; omega) (.slice A4 (Ln.idx (Ln.kill cs i) f).length c4)
      have kI5 := (kI.below hbw4 hIl).far (p := ⟨nb, 2 + f, none⟩) (by simp; omega) (.slice A4 (Ln.idx (Ln.kill cs i) f).length c4)
      have kN5 := (kN'.below hbw4 hKl).far (p := ⟨nb, 2 + f, none⟩) (by simp; omega) (.slice A4 (Ln.idx (Ln.kill cs i) f).length c4)
      have hrd5 : Rd (w4.setCell ⟨nb, 2 + f, none⟩ (.slice A4 (Ln.idx (Ln.kill cs i) f).length c4)) W'.heap.size 1 A1 (Ln.idx cs f).length (nlist (Ln.idx cs f)) := rd_set (hrd1.below hbw4 (Nat.le_refl _)) (fun a e => by have := HAP2.out f _ a.block HV.out (by rw [e]; rfl); omega)
      have hk5 : KeepsFrom W0.heap.size W' (w4.setCell ⟨nb, 2 + f, none⟩ (.slice A4 (Ln.idx (Ln.kill cs i) f).length c4)) := by
        refine ⟨by rw [size_setCell]; exact hbw4.size, fun k o hk ho hc' => ?_⟩
        have hkl := (Array.getElem?_eq_some_iff.1 ho).1
        exact (Below.heap_setCell _ _ _ _ (by simp; omega)).trans ((hbw4.block k hkl).trans ho)
      obtain ⟨W5, hW5⟩ : ∃ W5, w4.setCell ⟨nb, 2 + f, none⟩ (.slice A4 (Ln.idx (Ln.kill cs i) f).length c4) = W5 := ⟨_, rfl⟩
      rw [hW5] at hN5 hL5 hO5 hX5 kX5 kI5 kN5 hk5 hrd5 ⊢
      have hz5 : W'.heap.size ≤ W5.heap.size := hk5.size
      clear hfr3 hb3 hb4 hrd4 hnew4 hN4 b2 bf hW5 hS5 hS3 hS4 hrdV hbV hrd1 a1 a2 x0 x1 x2 y0 hSV hVV hzV
      have a1 := kN5.cell 0
      have x0 := kX5.cell 0
      have x1 := kX5.cell 1
      have x2 := kX5.cell 2
      have y0 := kI5.cell 0
      simp only [List.getElem?_toArray, List.getElem?_cons_zero, List.getElem?_cons_succ] at a1 x0 x1 x2 y0
      rw [HMT.out.1] at x0
      rw [HMT.out.2.1] at x1
      rw [HMT.out.2.2] at x2
      have hdc := fun W hb => distances_any hkill W5.heap.size nb A c _ f (by omega) W (hN5.below hb (Nat.le_refl _)) hb.size
      have hix := fun w => run_index_av HDL.out (b := t) (by omega) w
      have hyb := HDS.out
      obtain ⟨D, hD⟩ : ∃ D, Ln.distF (Ln.kill cs i) M f = D := ⟨_, rfl⟩
      have hsn := HSN.out
      rw [hD] at hix hyb hsn hdc
      obtain ⟨y, hy⟩ : ∃ y, Ln.gt D t = y := ⟨_, rfl⟩
      simp only [hy] at hix
      rw [hy] at hyb hsn
      have HDC := Lib.hid hdc
      have HYB := Lib.hid hyb
      have HSN2 := Lib.hid hsn
      clear hdc hyb hsn hy hD HSN HDS HDL
      gi_wp2_with (fail)
      have hSV : W5.cell? ⟨kb, 0, none⟩ = some (.pointer (some ⟨nb, 0, none⟩)) ∧ W5.cell? ⟨Bx, 0, none⟩ = some (.int .i64 f) ∧ W5.cell? ⟨Bx, 1, none⟩ = some (.int .i64 t) ∧ W5.cell? ⟨Bx, 2, none⟩ = some (.int .i64 m) := ⟨a1, x0, x1, x2⟩
      refine wpIn_region_held_round (fun V => V.cell? ⟨kb, 0, none⟩ = some (.pointer (some ⟨nb, 0, none⟩)) ∧ V.cell? ⟨Bx, 0, none⟩ = some (.int .i64 f) ∧ V.cell? ⟨Bx, 1, none⟩ = some (.int .i64 t) ∧ V.cell? ⟨Bx, 2, none⟩ = some (.int .i64 m)) (by kernel_rfl) (by kernel_rfl) (fun ⟨_, _, h⟩ => h) ?_
      (refine wpAnyH_take (i := 0) (v := ?_) rfl (by kernel_rfl) (by kernel_rfl) (by kernel_rfl) (fun _ _ _ h => h) (Or.inl ⟨by rfl, ?_⟩) hSV ?_; rotate_left 1; focus (intro w hSw; (try dsimp only at hSw); go_simp; all_goals (with_reducible rfl)); (try simp only [Act.put, List.setIfInBounds_toArray, List.set_cons_zero, List.set_cons_succ]))
      (refine wpAnyH_take (i := 1) (v := ?_) rfl (by kernel_rfl) (by kernel_rfl) (by kernel_rfl) (fun _ _ _ h => h) (Or.inl ⟨by rfl, ?_⟩) hSV ?_; rotate_left 1; focus (intro w hSw; (try dsimp only at hSw); go_simp; all_goals (with_reducible rfl)); (try simp only [Act.put, List.setIfInBounds_toArray, List.set_cons_zero, List.set_cons_succ]))
      (refine wpAnyH_take (i := 2) (v := ?_) rfl (by kernel_rfl) (by kernel_rfl) (by kernel_rfl) (fun _ _ _ h => h) (Or.inl ⟨by rfl, ?_⟩) hSV ?_; rotate_left 1; focus (intro w hSw; (try dsimp only at hSw); go_simp; all_goals (with_reducible rfl)); (try simp only [Act.put, List.setIfInBounds_toArray, List.set_cons_zero, List.set_cons_succ]))
      (refine wpAnyH_take (i := 4) (v := ?_) rfl (by kernel_rfl) (by kernel_rfl) (by kernel_rfl) (fun _ _ _ h => h) (Or.inl ⟨by rfl, ?_⟩) hSV ?_; rotate_left 1; focus (intro w hSw; (try dsimp only at hSw); go_simp; all_goals (with_reducible rfl)); (try simp only [Act.put, List.setIfInBounds_toArray, List.set_cons_zero, List.set_cons_succ]))
      (refine wpAnyH_take (i := 5) (v := ?_) rfl (by kernel_rfl) (by kernel_rfl) (by kernel_rfl) (fun _ _ _ h => h) (Or.inl ⟨by rfl, ?_⟩) hSV ?_; rotate_left 1; focus (intro w hSw; (try dsimp only at hSw); go_simp; all_goals (with_reducible rfl)); (try simp only [Act.put, List.setIfInBounds_toArray, List.set_cons_zero, List.set_cons_succ]))
      (refine wpAnyH_take (i := 7) (v := ?_) rfl (by kernel_rfl) (by kernel_rfl) (by kernel_rfl) (fun _ _ _ h => h) (Or.inl ⟨by rfl, ?_⟩) hSV ?_; rotate_left 1; focus (intro w hSw; (try dsimp only at hSw); go_simp; all_goals (with_reducible rfl)); (try simp only [Act.put, List.setIfInBounds_toArray, List.set_cons_zero, List.set_cons_succ]))
      (refine wpAnyH_take (i := 8) (v := ?_) rfl (by kernel_rfl) (by kernel_rfl) (by kernel_rfl) (fun _ _ _ h => h) (Or.inl ⟨by rfl, ?_⟩) hSV ?_; rotate_left 1; focus (intro w hSw; (try dsimp only at hSw); go_simp; all_goals (with_reducible rfl)); (try simp only [Act.put, List.setIfInBounds_toArray, List.set_cons_zero, List.set_cons_succ]))
      refine wpAnyH_ready (rs := [3]) (by kernel_rfl) (by simp) ?_
      refine AllReadyH.cons rfl (fun K hK => ?_) AllReadyH.nil
      rw [if_pos (by rfl)]
      go_simp
      refine (HDC.out W5.drew ((Below.refl _ W5).drew)).mono ?_
      rintro e w6 ⟨rfl, hb6⟩
      have hb6' : RowKit.Below W5.heap.size W5 w6 := ((Below.refl _ W5).drew).trans hb6
      have hlB := kX5.lt
      have hlK := kN5.lt
      have hS6 : w6.cell? ⟨kb, 0, none⟩ = some (.pointer (some ⟨nb, 0, none⟩)) ∧ w6.cell? ⟨Bx, 0, none⟩ = some (.int .i64 f) ∧ w6.cell? ⟨Bx, 1, none⟩ = some (.int .i64 t) ∧ w6.cell? ⟨Bx, 2, none⟩ = some (.int .i64 m) :=
        ⟨(hb6'.cell (p := ⟨kb, 0, none⟩) hlK).trans a1, (hb6'.cell (p := ⟨Bx, 0, none⟩) hlB).trans x0, (hb6'.cell (p := ⟨Bx, 1, none⟩) hlB).trans x1, (hb6'.cell (p := ⟨Bx, 2, none⟩) hlB).trans x2⟩
      simp only []
      refine hK.out _ _ hS6 (fun _ => ?_)
      clear hK K
      (try simp only [Act.put, List.setIfInBounds_toArray, List.set_cons_zero, List.set_cons_succ])
      (refine wpAnyH_take (i := 6) (v := ?_) rfl (by kernel_rfl) (by kernel_rfl) (by kernel_rfl) (fun _ _ _ h => h) (Or.inl ⟨by rfl, ?_⟩) hS6 ?_; rotate_left 1; focus (intro w hSw; (try dsimp only at hSw); go_simp; all_goals (with_reducible rfl)); (try simp only [Act.put, List.setIfInBounds_toArray, List.set_cons_zero, List.set_cons_succ]))
      (refine wpAnyH_take (i := 9) (v := ?_) rfl (by kernel_rfl) (by kernel_rfl) (by kernel_rfl) (fun _ _ _ h => h) (Or.inl ⟨by rfl, ?_⟩) hS6 ?_; rotate_left 1; focus (intro w hSw; (try dsimp only at hSw); go_simp; all_goals (with_reducible rfl)); (try simp only [Act.put, List.setIfInBounds_toArray, List.set_cons_zero, List.set_cons_succ]))
      refine wpAnyH_done (by kernel_rfl) ?_ _
      (try simp only [Act.put, List.setIfInBounds_toArray, List.set_cons_zero, List.set_cons_succ])
      have hsepA : Sep (fr'.set f (.slice A4 (Ln.idx (Ln.kill cs i) f).length c4)) O (kb + 1) := sep_set HSEP.out (fun a e => by
        have := hA4 a e
        exact ⟨by omega, fun e' => by have := (hO'.lt _ e').2; omega⟩)
      have HN6 := isNet_below hN5 hb6'
      have hL6 := hL5.below hb6' (by omega)
      have hO6 := own_below hO5 hb6'
      have hX6 := hX5.trans (KeepX.of_below (hb6'.mono (by omega)) _)
      have hk6 := hk5.trans ⟨hb6'.size, fun k o hk ho hc' => (hb6'.block k (Array.getElem?_eq_some_iff.1 ho).1).trans ho⟩
      have hI6 := kI5.below hb6' (by omega)
      have hN6b := kN5.below hb6' hlK
      have hX6b := kX5.below hb6' hlB
      have hrd6 := hrd5.below hb6' hz5
      have b2 := (HN6.blk.cell (2 + f)).trans ((ncells_from _ _ _ _).trans (by rw [List.getElem?_set, if_pos rfl, if_pos (by rw [← hN'.len] at *; have := hN'.len; omega)]))
      have bf := HN6.blk.frozen (2 + f)
      have hNl6 := HN6.lt
      have cO := hL6.cell 0
      have fO := hL6.frozen 0
      have cI := hI6.cell 0
      have cN := hN6b.cell 0
      have cX := hX6b.cell 0
      simp only [List.getElem?_toArray, List.getElem?_cons_zero] at cO cI cN cX
      rw [HMT.out.1] at cX
      have hLl6 := hL6.lt
      have hIl6 := hI6.lt
      have hNbl6 := hN6b.lt
      have hXl6 := hX6b.lt
      have H6 := Lib.hid (And.intro HN6 (And.intro hL6 (And.intro hO6 (And.intro hX6 (And.intro hk6 (And.intro hrd6 hsepA))))))
      clear HN6 hL6 hO6 hX6 hk6 hrd6 hsepA hI6 hN6b hX6b hN5 hL5 hO5 hX5 kX5 kI5 kN5 hk5 hrd5 hN' hL' hO' kI kX kN' hb6 hb6' hS6 hSV a1 x0 x1 x2 y0 hix
      rcases Int.lt_or_le m y with hle | hle
      · gi_wp2_with (fail)
        refine wpIn_region_tail_round 7 (by kernel_rfl) (by kernel_rfl) (by kernel_rfl) (fun ⟨_, _, h⟩ => h) ?_
        simp only [List.take_succ_cons, List.take_zero, List.drop_succ_cons, List.drop_zero]
        repeat still_step
        try refine wpStill_nil ?_
        go_wp2_with fail
        have hst : Ln.needK bs M (pre.map Subtype.val ++ [i]) = (cs, L) := by rw [HSN2.out, if_neg (by omega)]
        have hfr : (fr'.set f (.slice A4 (Ln.idx (Ln.kill cs i) f).length c4)).set f (.slice A1 (Ln.idx cs f).length c1) = fr' := by
          apply List.ext_getElem?
          intro k
          rw [List.set_set, List.getElem?_set]
          by_cases e : f = k
          · subst e
            rw [if_pos rfl, HV.out, if_pos (List.getElem?_eq_some_iff.1 HV.out).1]
          · rw [if_neg e]
        have hap6 : ∀ (p : Nat) (v : Value) (g : Nat), (fr'.set f (.slice A4 (Ln.idx (Ln.kill cs i) f).length c4))[p]? = some v → v.ownBlock = some g → nb < g := fun p v g hp hg => by
          rw [List.getElem?_set] at hp
          by_cases e : f = p
          · rw [if_pos e] at hp
            split at hp
            · cases hp
              rcases A4 with _ | a4
              · cases hg
              · have := hA4 a4 rfl
                cases hg
                omega
            · cases hp
          · rw [if_neg e] at hp
            exact HAP2.out p v g hp hg
        have hN7 := isNet_set (c2 := c1) H6.out.1 (by rw [Ln.kill_length]) (bcells_same (by rw [Ln.kill_length]) (fun j => let h := Ln.kill_bd (bs := cs) (x := i) j; ⟨h.1.symm, h.2.1.symm, h.2.2.1.symm, h.2.2.2.1.symm⟩)) (fun q hq => (Ln.idx_kill_other (by omega) (by rw [(HSAME.out i).1, HMT.out.1]; omega)).symm) (by omega : f < 128) hap6 hAne (H6.out.2.2.2.2.2.1.more H6.out.2.2.2.2.1.size) (fun a e => by have := HAP2.out f _ a.block HV.out (by rw [e]; rfl); omega)
        rw [hfr] at hN7
        have hN8 := isNet_below hN7 ((Below.refl _ _).drew)
        have hX7 := (H6.out.2.2.2.1.setCell (p := ⟨nb, 2 + f, none⟩) (fun _ => .inl rfl) (.slice A1 (Ln.idx cs f).length c1)).drew
        have hO7 : (w6.setCell ⟨nb, 2 + f, none⟩ (.slice A1 (Ln.idx cs f).length c1)).ownsRow W0.heap.size 3 1 O L.length (nlist L) := H6.out.2.2.1.kept (grown_setCell w6 ⟨nb, 2 + f, none⟩ _) (own_offN H6.out.2.2.1 (by simp; omega))
        have hk7 : KeepsFrom W0.heap.size W' (w6.setCell ⟨nb, 2 + f, none⟩ (.slice A1 (Ln.idx cs f).length c1)).drew := by
          refine ⟨?_, fun k o hk ho hc' => ?_⟩
          · show W'.heap.size ≤ (w6.setCell ⟨nb, 2 + f, none⟩ (.slice A1 (Ln.idx cs f).length c1)).heap.size
            rw [size_setCell]
            exact H6.out.2.2.2.2.1.size
          · exact (Below.heap_setCell w6 ⟨nb, 2 + f, none⟩ _ k (by simp; omega)).trans (H6.out.2.2.2.2.1.same k o hk ho hc')
        refine ⟨hk7, hX7, ⟨?_, i3.trans hX7⟩⟩
        rw [show List.map Subtype.val (pre ++ [(⟨i, hi⟩ : Iy bs)]) = List.map Subtype.val pre ++ [i] from by simp]
        unfold NeedI
        rw [hst]
        exact ⟨fr', O, hN8, HAP2.out, (H6.out.2.1.far (p := ⟨nb, 2 + f, none⟩) (by simp; omega) _), hO7.drew, HNIL.out, HSEP.out⟩
      · gi_wp2_with (refine wpListIn_append_own_at _ rfl _ _ 25 rfl W0.heap.size 3 i0 _ 1 8 Try.underlying25 hi0 hiz hi1 hi2 rfl (by omega) O _ _ rfl (H6.out.2.2.1.alloc _) ⟨w6.heap.size, 0, none⟩ 1 1 [.int .i64 (i : Int)] rfl rfl (World.news_of_block (cs := #[.int .i64 (i : Int)]) (t := 3) (fr := (0, 0)) (heap_alloc_new w6 _)) (by simp [Value.oneCell']) (by unfold maxLen; omega) (by omega) (by rw [World.size_alloc]; omega) ?_; intro v' w7 hown hgrow hnil hat; obtain ⟨A7, c7, hv7, hrd7, _⟩ := ownB_rd hown (by simp [nlist]); subst hv7; have hkO : some (kb + 1) ≠ O.ownBlock := off_neN H6.out.2.2.1 (by omega); have q0 := (H6.out.2.1.alloc (.cells #[.int .i64 (i : Int)] 3)).grown hgrow hkO; have q1 := q0.cell 0; have q2 := q0.frozen 0; have q3 := q0.lt)
        have hst : Ln.needK bs M (pre.map Subtype.val ++ [i]) = (Ln.kill cs i, L ++ [i]) := by rw [HSN2.out, if_pos hle]
        have hap6 : ∀ (p : Nat) (v : Value) (g : Nat), (fr'.set f (.slice A4 (Ln.idx (Ln.kill cs i) f).length c4))[p]? = some v → v.ownBlock = some g → nb < g := fun p v g hp hg => by
          rw [List.getElem?_set] at hp
          by_cases e : f = p
          · rw [if_pos e] at hp
            split at hp
            · cases hp
              rcases A4 with _ | a4
              · cases hg
              · have := hA4 a4 rfl
                cases hg
                omega
            · cases hp
          · rw [if_neg e] at hp
            exact HAP2.out p v g hp hg
        have hOlt : ∀ g, O.ownBlock = some g → W0.heap.size ≤ g ∧ g < w6.heap.size := fun g e => H6.out.2.2.1.lt g e
        have hsp := H6.out.2.2.2.2.2.2
        have hNa := isNet_below H6.out.1 ((Below.refl _ w6).alloc (Nat.le_refl _) (.cells #[.int .i64 (i : Int)] 3))
        have hNb := isNet_apart hNa hgrow (fun e => by have := hOlt nb e.symm; omega) (fun a e hn e' => by
          obtain ⟨b, off, e2, hb, _⟩ := hR.2 (by rw [Ln.kill_length] at hn; omega)
          rw [e] at e2
          cases e2
          have := hOlt b e'.symm
          omega) (fun p A' n c' hp hn a e e' => (hsp p A' n c' hp hn a e).2 e'.symm)
        have hNc := isNet_apart (W' := w7.setCell ⟨kb + 1, 0, none⟩ (.slice A7 (L.length + 1) c7)) hNb (grown_setCell w7 ⟨kb + 1, 0, none⟩ _) (fun e => by simp at e; omega) (fun a e hn e' => by
          obtain ⟨b, off, e2, hb, _⟩ := hR.2 (by rw [Ln.kill_length] at hn; omega)
          rw [e] at e2
          cases e2
          simp at e'
          omega) (fun p A' n c' hp hn a e e' => (hsp p A' n c' hp hn a e).1 (by simpa using e'))
        have hrow7 : ∀ (p : Nat) (A' : Option Addr) (n c' : Nat), (fr'.set f (.slice A4 (Ln.idx (Ln.kill cs i) f).length c4))[p]? = some (.slice A' n c') → 0 < n → ∀ a : Addr, A' = some a → a.block < w6.heap.size := fun p A' n c' hp hn a e => by
          obtain ⟨A'', c'', e', hrd⟩ := H6.out.1.rows p _ hp
          cases e'
          obtain ⟨b, off, e2, hb, _⟩ := hrd.2 hn
          rw [e] at e2
          cases e2
          exact hb
        have hX7 : KeepX W0.heap.size (fun j => j = nb ∨ j = kb + 1) W' (w7.setCell ⟨kb + 1, 0, none⟩ (.slice A7 (L.length + 1) c7)) := ((H6.out.2.2.2.1.alloc (by omega) (.cells #[.int .i64 (i : Int)] 3)).trans (KeepX.of_grown hgrow (by rw [World.size_alloc]; omega) (fun k e hk => by have := hOlt k e; omega))).setCell (p := ⟨kb + 1, 0, none⟩) (fun _ => .inr rfl) _
        have hk7 : KeepsFrom W0.heap.size W' (w7.setCell ⟨kb + 1, 0, none⟩ (.slice A7 (L.length + 1) c7)) := by
          refine ⟨?_, fun k o hk ho hc' => ?_⟩
          · rw [size_setCell]
            have h1 := hgrow.size
            rw [World.size_alloc] at h1
            have h2 := H6.out.2.2.2.2.1.size
            omega
          · have h2 := H6.out.2.2.2.2.1.same k o hk ho hc'
            have hkl := (Array.getElem?_eq_some_iff.1 h2).1
            refine (Below.heap_setCell w7 ⟨kb + 1, 0, none⟩ _ k (by simp; omega)).trans ((hgrow.block k (by rw [World.size_alloc]; omega) (fun e => ?_)).trans ((Below.heap_alloc w6 _ k hkl).trans h2))
            rcases H6.out.2.2.1.2 with ⟨hO0, _⟩ | ⟨g, cap, cur, hO0, _, hg, _⟩
            · rw [hO0] at e
              cases e
            · rw [hO0] at e
              cases e
              rw [hg] at h2
              cases h2
              cases hc'
        have hO7 := hown.kept (grown_setCell w7 ⟨kb + 1, 0, none⟩ (.slice A7 (L.length + 1) c7)) (own_offN hown (by simp; omega))
        refine ⟨hk7, hX7, ⟨?_, i3.trans hX7⟩⟩
        rw [show List.map Subtype.val (pre ++ [(⟨i, hi⟩ : Iy bs)]) = List.map Subtype.val pre ++ [i] from by simp]
        unfold NeedI
        rw [hst]
        refine ⟨_, _, hNc, hap6, q0.set 0 _, ?_, fun h => by simp at h, fun p A' n c' hp hn a e => ⟨(hsp p A' n c' hp hn a e).1, fun e' => ?_⟩⟩
        · rw [nlist_snoc] at hO7
          simpa using hO7
        · have h1 := hrow7 p A' n c' hp hn a e
          rcases hat with h | h
          · rw [h] at e'
            exact (hsp p A' n c' hp hn a e).2 e'
          · rw [h, World.size_alloc] at e'
            simp only [Option.some.injEq] at e'
            omega
    case done =>
      rintro D ys W' hD rfl ⟨⟨fr', O, hN', _, hL', hO', hnil', _⟩, i3⟩ hKD
      rw [downTo_val] at hN' hO' hnil'
      have hsm := Ln.needK_same HOK.out ((List.range bs.length).map fun j => bs.length - 1 - j)
      have hnl := hsm.2.2.1
      rw [List.length_map, List.length_range] at hnl
      have hres := HRR.out
      clear hsm hN'
      obtain ⟨L, hL⟩ : ∃ L, (Ln.needK bs M ((List.range bs.length).map fun j => bs.length - 1 - j)).2 = L := ⟨_, rfl⟩
      rw [hL] at hO' hnil' hnl hres
      have HRES := Lib.hid hres
      clear hres hL HRR
      have hBW' : RowKit.Below w.heap.size w W' := hBW0.trans (i3.below (by omega) (fun j hj e => by omega))
      have hLl := hL'.lt
      have c1 := hL'.cell 0
      simp only [List.getElem?_toArray, List.getElem?_cons_zero] at c1
      have hDl := (Array.getElem?_eq_some_iff.1 hKD).1
      by_cases hLe : L = []
      · subst hLe
        have hOe := hnil' rfl
        subst hOe
        clear hnil'
        gi_wp2_with (refine ⟨trivial, ?_⟩; gi_at_call 62; refine (callsIn_wide.2 (Any.slices_Reverse_int_empty Try.laysReverse none 0 _)).mono ?_; rintro e w2 ⟨rfl, rfl⟩)
        refine leaves_marks [D] _ (by simp) (fun E hE => by simp only [List.mem_cons, List.not_mem_nil, or_false] at hE; rw [hE]; exact hKD) (fun w' hw => ?_)
        have hres := HRES.out
        subst hres
        refine ⟨_, results_tmp2 rfl _ _ _, none, 0, rfl, Rd.nil _ _ _ _, hBW'.trans (hw.below (by have := hBW'.size; omega) (fun j hj e => by simp only [List.mem_cons, List.not_mem_nil, or_false] at e; omega))⟩
      · have hpos : 0 < L.length := List.length_pos_iff.2 hLe
        clear hnil'
        rcases hO'.2 with ⟨_, h0⟩ | ⟨g, cap, cur, rfl, hg1, hg2, hcap, _⟩
        · omega
        · have hgl : g < W'.heap.size := (Array.getElem?_eq_some_iff.1 hg2).1
          have hrev := Any.slices_Reverse_int_cells Try.laysReverse g 0 L.length cap (Ln.zl L) W' (by rw [Ln.zl_length]; exact Nat.le_refl _) (by omega) (fun j hj => by
            rw [Ln.zl_length] at hj
            rw [Nat.zero_add, hO'.cellAt j (by omega)]
            simp [nlist, Ln.zl, hj]) (fun j hj => by rw [Nat.zero_add]; exact hO'.frozenAt j)
          have HREV := Lib.hid hrev
          have hcells : ∀ j, j < L.length → (W'.cell? ⟨g, j, none⟩).isSome = true := fun j hj => by
            rw [hO'.cellAt j (by omega)]
            simp [nlist, hj]
          have HCL := Lib.hid hcells
          have hDg : D ≠ g := fun e => by
            rw [e, hg2] at hKD
            cases hKD
          clear hrev hcells hg2
          have hrc : (((Ln.zl L).take L.length).reverse.map (Value.int .i64)) = nlist L.reverse := by
            rw [List.take_of_length_le (by rw [Ln.zl_length]; exact Nat.le_refl _)]
            simp [nlist, Ln.zl]
          rw [hrc] at HREV
          clear hrc
          have hc2 : ∀ q, ((W'.drewN q).setCells g 0 (nlist L.reverse)).cell? ⟨kb + 1, 0, none⟩ = some (.slice (some ⟨g, 0, none⟩) L.length cap) := fun q => by
            rw [World.cell?_setCells_out g _ _ _ _ (fun e _ => by simp at e; omega)]
            exact c1
          gi_wp2_with (refine ⟨trivial, ?_⟩; gi_at_call 62; refine (callsIn_wide.2 HREV.out).mono ?_; rintro e w2 ⟨rfl, q, rfl⟩; have c2 := hc2 q)
          have hkS : KeepX W'.heap.size (fun k => k = g) W' ((W'.drewN q).setCells g 0 (nlist L.reverse)) := keepX_setCells (X := fun k => k = g) (fun _ => rfl) _ _ ((KeepX.refl _ _ W').drewN q)
          have hDk : ((W'.drewN q).setCells g 0 (nlist L.reverse)).heap[D]? = some (.deferred (some [])) := (hkS.block D hDl hDg).trans hKD
          have hzS := hkS.size
          refine leaves_marks [D] _ (by simp) (fun E hE => by simp only [List.mem_cons, List.not_mem_nil, or_false] at hE; rw [hE]; exact hDk) (fun w' hw => ?_)
          have hres := HRES.out
          subst hres
          have hlr : L.reverse.length = L.length := List.length_reverse
          refine ⟨_, results_tmp2 rfl _ _ _, some ⟨g, 0, none⟩, cap, ?_, ?_, ?_⟩
          · rw [hlr]
            rfl
          · refine ⟨by simp [nlist], fun _ => ⟨g, 0, rfl, Nat.lt_of_lt_of_le (by omega) hw.size, fun j hj => ?_⟩⟩
            have hj' : j < L.length := by simpa using hj
            rw [Nat.zero_add, World.cell?_of_block (hw.block g (by omega) (fun e => by simp only [List.mem_cons, List.not_mem_nil, or_false] at e; exact hDg e.symm))]
            have := World.cell?_setCells_in g (nlist L.reverse) 0 (W'.drewN q) (fun j hj => by rw [Nat.zero_add]; exact HCL.out j (by simpa [nlist] using hj)) j (by simpa [nlist] using hj')
            rw [Nat.zero_add] at this
            rw [this]
            simp [nlist, hj']
          · exact hBW'.trans ((hkS.below (B := w.heap.size) (by have := hBW'.size; omega) (fun j hj e => by omega)).trans (hw.below (B := w.heap.size) (by have := hBW'.size; omega) (fun j hj e => by simp only [List.mem_cons, List.not_mem_nil, or_false] at e; omega)))
    case stop =>
      rintro D cc pre W' _ _ h _
      exact h.elim
  · rw [if_neg hs] at hr
    have hne : (Ln.soundF N bs [] != 0) = true := by simp [hs]
    have HS := Lib.hid hs
    have HRR := Lib.hid hr
    clear hr hs
    go_enter Try.func30, Try.ntmps30
    go_wp2_with (go_at_call 44; refine (sound_err N A c bs none 0 [] _ hR1 hc hP1 (by simp) HS.out).mono ?_; rintro e w1 ⟨rfl, hb1⟩)
    go_ret2
    have hr := HRR.out
    subst hr
    exact ⟨none, 0, rfl, Rd.nil _ _ _ _, (hB0.trans (hb1.mono hB0.size)).alloc (by have := hB0.size; have := hb1.size; omega) _⟩
end

end Go.Proofs.Yteiaofgkmgllcaa
