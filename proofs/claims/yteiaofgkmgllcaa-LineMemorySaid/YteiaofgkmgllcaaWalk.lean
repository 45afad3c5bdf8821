/-
  search$1: the walk along the first path.
-/
import Derived.Test.YteiaofgkmgllcaaLong
import Derived.Test.YteiaofgkmgllcaaConcat
import Derived.Test.YteiaofgkmgllcaaMath
import Derived.WalkMore
set_option linter.unusedVariables false
set_option linter.unusedSimpArgs false
namespace Go.Proofs.Yteiaofgkmgllcaa
open Go.RowKit Go.Shelf

attribute [local go_sem] Oper.semAt_some

/-- What search's closure captures, as it lies in memory. -/
structure Wk (W : World) (base B nb N : Nat) (bs : List Ln.Bd) (A : Option Addr) (c : Nat) (fr : List Value) (R : Nat → List Int) (gr nR cR cb rb pb wb : Nat) : Prop where
  net : IsNet W B nb N bs A c fr
  cn : Bk W cb 64 #[.pointer (some ⟨nb, 0, none⟩)]
  cr : Bk W rb 78 #[.slice (some ⟨gr, 0, none⟩) nR cR]
  rows : ∀ k j, k < nR → j < 128 → W.cell? ⟨gr, k * 128 + j, none⟩ = some (.int .i64 (Ln.gt (R k) j))
  cw : Bk W wb 134 #[.func (.func 92) #[] #[.pointer (some ⟨cb, 0, none⟩), .pointer (some ⟨rb, 0, none⟩), .pointer (some ⟨pb, 0, none⟩), .pointer (some ⟨wb, 0, none⟩)]]
  hB : B ≤ base
  h1 : cb < base ∧ rb < base ∧ gr < base ∧ wb < base ∧ pb < base
  h2 : B ≤ pb ∧ cb ≠ pb ∧ rb ≠ pb ∧ gr ≠ pb ∧ wb ≠ pb
  hb : base ≤ W.heap.size

theorem Wk.keep {W W' : World} {base B nb N : Nat} {bs : List Ln.Bd} {A : Option Addr} {c : Nat} {fr : List Value} {R : Nat → List Int} {gr nR cR cb rb pb wb : Nat} (h : Wk W base B nb N bs A c fr R gr nR cR cb rb pb wb)
    {M : Nat} {X : Nat → Prop} (hk : KeepX M X W W') (hM : base ≤ M) (hX : ∀ j, j < base → j ≠ pb → ¬ X j) : Wk W' base B nb N bs A c fr R gr nR cR cb rb pb wb := by
  have h1 := h.h1
  have h2 := h.h2
  have hB := h.hB
  have bk : ∀ {g t cs}, Bk W g t cs → g < base → g ≠ pb → Bk W' g t cs := fun {g t cs} hh hg hne => (hk.block g (by omega) (hX g hg hne)).trans hh
  refine ⟨h.net.below (hk.below (B := B) (by omega) (fun j hj => hX j (by omega) (by omega))) (Nat.le_refl _), bk h.cn h1.1 h2.2.1, bk h.cr h1.2.1 h2.2.2.1, fun k j hk' hj => ?_, bk h.cw h1.2.2.2.1 h2.2.2.2.2, hB, h1, h2, Nat.le_trans h.hb hk.size⟩
  rw [World.cell?_of_block (hk.block gr (by omega) (hX gr h1.2.2.1 h2.2.2.2.1))]
  exact h.rows k j hk' hj

/-- How the walk's loop is left: a bound that can be the next one was found; it and the rest of the path stand in the list. -/
def WkX (w : World) (bs : List Ln.Bd) (R : Nat → List Int) (base pb left p : Nat) (most : Int) (l : List Nat) (O : Value) (cc : Code) (pre : List (Ix bs p)) (W : World) : Prop :=
  cc = .exit 0 ∧ ∃ (pre' : List (Ix bs p)) (x : Ix bs p), pre = pre' ++ [x] ∧ (∀ y ∈ pre'.map Subtype.val, Ln.okP bs (R left) most y = false) ∧ Ln.okP bs (R left) most x.1 = true ∧
    ∃ O', Bk W pb 25 #[O'] ∧ W.ownsRow base 3 1 O' (l ++ x.1 :: Ln.wkF bs R left (Ln.bd bs x.1).t.toNat (most - (Ln.bd bs x.1).m)).length (nlist (l ++ x.1 :: Ln.wkF bs R left (Ln.bd bs x.1).t.toNat (most - (Ln.bd bs x.1).m))) ∧
      KeepX w.heap.size (fun j => j = pb ∨ O.ownBlock = some j) w W ∧ ∃ a n c, O' = .slice (some a) n c
theorem own_cells {W W' : World} {row : Option Nat} {base e size : Nat} {v : Value} {n : Nat} {xs : List Value} (h : W.ownsRow base e size v n xs) (hg : W.grownBy W' row) (hr : ∀ r, row = some r → ∃ o : Obj, W.heap[r]? = some o ∧ o.isCells = false) : W'.ownsRow base e size v n xs := by
  refine h.kept hg ?_
  rcases hb : v.ownBlock with _ | g
  · exact .inl rfl
  · refine .inr fun e => ?_
    obtain ⟨o, ho, hc⟩ := hr g e.symm
    rcases h.2 with ⟨rfl, _⟩ | ⟨g', cap, cur, rfl, _, hg', _⟩
    · cases hb
    · cases hb
      rw [hg'] at ho
      cases ho
      cases hc
theorem wkX_own {w : World} {bs : List Ln.Bd} {R : Nat → List Int} {base pb left p : Nat} {most : Int} {l : List Nat} {O : Value} {B : Nat} (h1 : w.heap.size ≤ B) (h2 : pb < B) (cc : Code) : OwnFrom B (WkX w bs R base pb left p most l O cc) := by
  rintro pre W W' row ⟨hc, pre', x, h3, h4, h5, O', h6, h7, h8, h9⟩ hg hr
  refine ⟨hc, pre', x, h3, h4, h5, O', own_bk B pb 25 (fun (_ : Unit) => #[O']) () W W' row h6 hg hr, own_cells h7 hg (fun r e => (hr r e).2), ?_, h9⟩
  exact ⟨hg.os.trans h8.os, hg.tape.trans h8.tape, hg.output.trans h8.output, Nat.le_trans h8.size hg.size, fun k hk hx => by
    refine (hg.block k (by have := h8.size; omega) (fun e => ?_)).trans (h8.block k hk hx)
    have := (hr k e.symm).1
    omega⟩

set_option maxRecDepth 100000 in
set_option maxHeartbeats 4000000 in
theorem walk_any {N : Nat} {bs : List Ln.Bd} (hok : Ln.Ok N bs) (base B nb : Nat) (A : Option Addr) (c : Nat) (fr : List Value) (R : Nat → List Int) (hR : ∀ k, (R k).length = 128 ∧ Ln.Sm (1000000 * k) (R k)) (gr nR cR cb rb pb wb : Nat) (hnR : nR ≤ 130)
    (left : Nat) : ∀ (p : Nat) (most : Int) (l : List Nat) (O : Value) (w : World), left < nR → p < N → -100000000000000000 + 1000000 * (left : Int) ≤ most → most ≤ 100000000000000000 - 1000000 * (left : Int) → l.length + left ≤ 1000 →
      Wk w base B nb N bs A c fr R gr nR cR cb rb pb wb → Bk w pb 25 #[O] → w.ownsRow base 3 1 O l.length (nlist l) →
      Calls Try.prog 92 #[.int .i64 p, .int .i64 left, .int .i64 most, .pointer (some ⟨cb, 0, none⟩), .pointer (some ⟨rb, 0, none⟩), .pointer (some ⟨pb, 0, none⟩), .pointer (some ⟨wb, 0, none⟩)] w fun e w' =>
        ∃ O', e = .returned (.tuple #[]) ∧ Bk w' pb 25 #[O'] ∧ w'.ownsRow base 3 1 O' (l ++ Ln.wkF bs R left p most).length (nlist (l ++ Ln.wkF bs R left p most)) ∧ KeepX w.heap.size (fun j => j = pb ∨ O.ownBlock = some j) w w' ∧
          ((O' = O ∧ Ln.wkF bs R left p most = []) ∨ (Ln.wkF bs R left p most ≠ [] ∧ ∃ a n c, O' = .slice (some a) n c)) := by
  have hm : Try.prog.follows .mixedOrders = true := by kernel_rfl
  obtain ⟨i0, hi0, hz0, hz1, hz2⟩ := info_parts info3
  induction left with
  | zero =>
    intro p most l O w hl hp hm1 hm2 hlen hW hP hO
    refine (callsIn_wide (n := 3)).1 ?_
    refine callsIn_of_wp_marks Try.func92 rfl trivial ?_ rfl
    simp only [Try.ntmps92, List.size_toArray, List.length_cons, List.length_nil, Nat.reduceAdd, Nat.reduceSub, Array.replicate_succ, Array.replicate_zero, List.push_toArray, List.append_toArray, List.nil_append, List.cons_append]
    have hpl := hP.lt
    gi_wp2_with (fail)
    refine wpIn_wide.2 (wp_scope_straight ((wpIn_wide (n := 3)).1 ?_))
    gi_wp2_with (fail)
    rw [Exit.noGoto_ret]
    refine leaves_marks [] _ List.nodup_nil (fun D hD => by cases hD) (fun w' hw => ?_)
    have hK0 : KeepX w.heap.size (fun j => j = pb ∨ O.ownBlock = some j) w ((w.alloc (.cells #[.int .i64 0] 3)).alloc (.cells #[.int .i64 most] 3)) := ((KeepX.refl _ _ w).alloc (Nat.le_refl _) _).alloc (by simp) _
    have hb0 := (((Below.refl _ w).alloc (Nat.le_refl _) (.cells #[.int .i64 0] 3)).alloc (by simp) (.cells #[.int .i64 most] 3)).trans ((hw.below (B := w.heap.size) (by simp; omega) (fun j _ hj => by cases hj)))
    refine ⟨_, results_none rfl _ _ _, O, rfl, hP.below hb0 hpl, ?_, KeepX.of_below hb0 _, .inl ⟨rfl, rfl⟩⟩
    rw [Ln.wkF, List.append_nil]
    exact own_below hO hb0
  | succ left ih =>
    intro p most l O w hl hp hm1 hm2 hlen hW hP hO
    obtain ⟨L, hL⟩ : ∃ L : Nat, left + 1 = L := ⟨_, rfl⟩
    have hLL : (L : Int) - 1 = left := by omega
    have hne : ((L : Int) == 0) = false := by simp; omega
    rw [hL] at hl hm1 hm2 hlen ⊢
    have IH := Lib.hid ih
    have HRR := Lib.hid hR
    clear ih hR
    refine (callsIn_wide (n := 3)).1 ?_
    refine callsIn_of_wp_marks Try.func92 rfl trivial ?_ rfl
    simp only [Try.ntmps92, List.size_toArray, List.length_cons, List.length_nil, Nat.reduceAdd, Nat.reduceSub, Array.replicate_succ, Array.replicate_zero, List.push_toArray, List.append_toArray, List.nil_append, List.cons_append]
    have hpl := hP.lt
    have c0 := hW.cn.cell 0
    have h1 := hW.h1
    have hbs := hW.hb
    have hcb : cb < w.heap.size := by omega
    have hrb : rb < w.heap.size := by omega
    have hgb : gr < w.heap.size := by omega
    have hwb : wb < w.heap.size := by omega
    simp only [List.getElem?_toArray, List.getElem?_cons_zero] at c0
    gi_wp2_with (fail)
    refine wpIn_wide.2 (wp_scope_straight ((wpIn_wide (n := 3)).1 ?_))
    gi_wp2_with (fail)
    refine wpIn_label ?_
    gi_wp2_with (refine ⟨trivial, ?_⟩; gi_at_call 91; refine (edges_in _ nb p _).mono ?_; rintro e w' ⟨rfl, rfl⟩)
    have hbw := hW.net
    have hB := hW.hB
    have hnB := hW.net.lt
    have hlen2 := hok.len
    have htop := hok.top
    have kl := (((Bk.new w 3 #[.int .i64 (L : Int)]).alloc (.cells #[.int .i64 most] 3)).alloc (.cells #[.pointer (some ⟨nb, 0, none⟩)] 64)).alloc (.cells #[.int .i64 (p : Int)] 3)
    have km := ((Bk.new (w.alloc (.cells #[.int .i64 (L : Int)] 3)) 3 #[.int .i64 most]).alloc (.cells #[.pointer (some ⟨nb, 0, none⟩)] 64)).alloc (.cells #[.int .i64 (p : Int)] 3)
    have kn := (Bk.new ((w.alloc (.cells #[.int .i64 (L : Int)] 3)).alloc (.cells #[.int .i64 most] 3)) 64 #[.pointer (some ⟨nb, 0, none⟩)]).alloc (.cells #[.int .i64 (p : Int)] 3)
    have kq := Bk.new (((w.alloc (.cells #[.int .i64 (L : Int)] 3)).alloc (.cells #[.int .i64 most] 3)).alloc (.cells #[.pointer (some ⟨nb, 0, none⟩)] 64)) 3 #[.int .i64 (p : Int)]
    have e1 : (w.alloc (.cells #[.int .i64 (L : Int)] 3)).heap.size = w.heap.size + 1 := by simp
    have e2 : ((w.alloc (.cells #[.int .i64 (L : Int)] 3)).alloc (.cells #[.int .i64 most] 3)).heap.size = w.heap.size + 1 + 1 := by simp
    have e3 : (((w.alloc (.cells #[.int .i64 (L : Int)] 3)).alloc (.cells #[.int .i64 most] 3)).alloc (.cells #[.pointer (some ⟨nb, 0, none⟩)] 64)).heap.size = w.heap.size + 1 + 1 + 1 := by simp
    have e4 : ((((w.alloc (.cells #[.int .i64 (L : Int)] 3)).alloc (.cells #[.int .i64 most] 3)).alloc (.cells #[.pointer (some ⟨nb, 0, none⟩)] 64)).alloc (.cells #[.int .i64 (p : Int)] 3)).heap.size = w.heap.size + 1 + 1 + 1 + 1 := by simp
    have hBW : Below w.heap.size w ((((w.alloc (.cells #[.int .i64 (L : Int)] 3)).alloc (.cells #[.int .i64 most] 3)).alloc (.cells #[.pointer (some ⟨nb, 0, none⟩)] 64)).alloc (.cells #[.int .i64 (p : Int)] 3)) :=
      ((((Below.refl _ w).alloc (Nat.le_refl _) _).alloc (by omega) _).alloc (by omega) _).alloc (by omega) _
    rw [e1] at km
    rw [e2] at kn
    rw [e3] at kq
    obtain ⟨W0, hW0⟩ : ∃ W0, (((w.alloc (.cells #[.int .i64 (L : Int)] 3)).alloc (.cells #[.int .i64 most] 3)).alloc (.cells #[.pointer (some ⟨nb, 0, none⟩)] 64)).alloc (.cells #[.int .i64 (p : Int)] 3) = W0 := ⟨_, rfl⟩
    rw [hW0] at kl km kn kq hBW e4 ⊢
    clear hW0 e1 e2 e3
    have hsz : w.heap.size + 4 ≤ W0.heap.size := by omega
    clear e4
    have hW0 := hW.keep (KeepX.of_below hBW (fun _ => False)) hbs (fun _ _ _ h => h)
    have hP0 := hP.below hBW hpl
    have hO0 := own_below hO hBW
    have HK0 := KeepX.of_below hBW (fun j => j = pb ∨ O.ownBlock = some j)
    have HOK := Lib.hid hok
    clear hok
    refine wpIn_rangeFunc_ownH (F := Fence.wide) (n := 3) rfl (by omega) (gf := 96) (lb := #[.pointer (some ⟨w.heap.size + 1 + 1, 0, none⟩), .pointer (some ⟨w.heap.size + 1 + 1 + 1, 0, none⟩)]) rfl trivial (enters_of Try.func96 (by kernel_rfl) rfl)
      (edges_stops 2 (by omega) (w.heap.size + 1 + 1) (w.heap.size + 1 + 1 + 1) W0.heap.size B nb N p (fun _ => False) bs A c fr (by omega) (fun _ _ h => h) (by omega) (by omega) (fun h => h) (fun h => h) (by omega) hlen2 W0 (Nat.le_refl _) kn kq hW0.net)
      keepX_t (keepX_b (Nat.le_refl _)) (Below.refl _ _) (fun _ => rfl)
      (fun pre W' => (∀ y ∈ pre.map Subtype.val, Ln.okP bs (R left) most y = false) ∧ KeepX W0.heap.size (fun _ => False) W0 W')
      (WkX w bs R base pb left p most l O)
      (OwnFrom.and (ownFrom_pure _ _) (own_keepX (Nat.le_refl _) (Nat.le_refl _)))
      (wkX_own (by omega) (by omega))
      ⟨(fun y hy => by cases hy), KeepX.refl _ _ _⟩
      (fun x a' W' => ∃ Bx, W0.heap.size ≤ Bx ∧ Bk W' Bx 50 #[.int .i64 (Ln.bd bs x.1).f, .int .i64 (Ln.bd bs x.1).t, .int .i64 (Ln.bd bs x.1).m, .int .i64 (Ln.bd bs x.1).r] ∧ a' = { tmps := (Value.int .i64 (p : Int) :: Value.int .i64 (L : Int) :: Value.int .i64 most :: Value.pointer (some ⟨cb, 0, none⟩) :: Value.pointer (some ⟨rb, 0, none⟩) :: Value.pointer (some ⟨pb, 0, none⟩) :: Value.pointer (some ⟨wb, 0, none⟩) :: undef :: Value.pointer (some ⟨w.heap.size, 0, none⟩) :: Value.pointer (some ⟨w.heap.size + 1, 0, none⟩) :: Value.int .i64 (x.1 : Int) :: Value.pointer (some ⟨Bx, 0, none⟩) :: undef :: Value.int .i64 (L : Int) :: Value.bool false :: Value.pointer (some ⟨nb, 0, none⟩) :: Value.int .i64 (p : Int) :: Value.func (.func 96) #[] #[.pointer (some ⟨w.heap.size + 1 + 1, 0, none⟩), .pointer (some ⟨w.heap.size + 1 + 1 + 1, 0, none⟩)] :: Value.int .i64 (x.1 : Int) :: Value.agg #[.int .i64 (Ln.bd bs x.1).f, .int .i64 (Ln.bd bs x.1).t, .int .i64 (Ln.bd bs x.1).m, .int .i64 (Ln.bd bs x.1).r] :: undef :: undef :: undef :: undef :: undef :: undef :: undef :: undef :: undef :: undef :: undef :: undef :: undef :: undef :: undef :: undef :: undef :: undef :: undef :: undef :: undef :: undef :: undef :: undef :: undef :: undef :: undef :: undef :: undef :: undef :: undef :: undef :: []).toArray, defers := [] })
      (fun x a' _ X Y row hs hg hr => by obtain ⟨Bx, h1, h2, h3⟩ := hs; exact ⟨Bx, h1, own_bk W0.heap.size Bx 50 (fun (_ : Unit) => _) () X Y row h2 hg hr, h3⟩)
      ?assign ?body ?done ?stop
    case assign =>
      rintro l pre x W' KK ⟨i1, i3⟩ hKK
      dsimp only [ixv]
      gi_wp2_with (fail)
      exact hKK _ _ ((KeepsOthers.alloc _ _).from _) ((KeepX.refl _ _ _).alloc i3.size _) ⟨i1, i3.alloc i3.size _⟩ ⟨W'.heap.size, i3.size, Bk.new W' _ _, rfl⟩
    case body =>
      rintro l' pre x a' W' hl' ⟨r, hr⟩ ⟨i1, i3⟩ ⟨Bx, hBx, bX, rfl⟩ hltp
      obtain ⟨i, hmem⟩ := x
      obtain ⟨hib, hif⟩ := Ln.idx_lt hmem
      have hbd := HOK.out.each _ (Ln.bd_mem hib)
      have hbW : Below W0.heap.size W0 W' := i3.below (Nat.le_refl _) (fun _ _ h => h)
      have hWk := hW0.keep i3 hW0.hb (fun _ _ _ h => h)
      have hzW := hbW.size
      obtain ⟨tn, htn⟩ : ∃ tn : Nat, (Ln.bd bs i).t = tn := ⟨(Ln.bd bs i).t.toNat, by omega⟩
      have htN : tn < N := by omega
      have ht128 : (tn : Int) < 128 := by omega
      have ht0 : (0 : Int) ≤ (tn : Int) := Int.natCast_nonneg _
      have hL1 : (left : Int) < nR := by omega
      have hL0 : (0 : Int) ≤ (left : Int) := Int.natCast_nonneg _
      have c1 := (kl.below hbW (by omega)).cell 0
      have c2 := (km.below hbW (by omega)).cell 0
      have c3 := hWk.cr.cell 0
      have c4 := hWk.rows left tn (by omega) (by omega)
      have x1 := bX.cell 1
      have x2 := bX.cell 2
      simp only [List.getElem?_toArray, List.getElem?_cons_zero, List.getElem?_cons_succ] at c1 c2 c3 x1 x2
      rw [htn] at x1
      have hbx := bX.lt
      have hlW := (kl.below hbW (by omega)).lt
      have hmW := (km.below hbW (by omega)).lt
      have hrW : rb < W'.heap.size := by omega
      have hgW : gr < W'.heap.size := by omega
      have hpW : pb < W'.heap.size := by omega
      have hwW : wb < W'.heap.size := by omega
      have hyr := (HRR.out left).2.at_ (k := tn) (by have := (HRR.out left).1; omega)
      have hokp : Ln.okP bs (R left) most i = (!decide (Ln.gt (R left) tn = Ln.NONE) && decide ((Ln.bd bs i).m + Ln.gt (R left) tn ≤ most)) := by
        rw [Ln.okP, htn]
        simp
      obtain ⟨m, hmm⟩ : ∃ m, (Ln.bd bs i).m = m := ⟨_, rfl⟩
      obtain ⟨y, hy⟩ : ∃ y, Ln.gt (R left) tn = y := ⟨_, rfl⟩
      rw [hmm] at x2 hbd hokp
      rw [hy] at c4 hyr hokp
      have hbm1 := hbd.2.2.1
      have hbm2 := hbd.2.2.2
      have HOP := Lib.hid hokp
      have HYR := Lib.hid hyr
      have HI1 := Lib.hid i1
      have HMM := Lib.hid hmm
      have HTN := Lib.hid htn
      clear hokp hyr i1 hmm hy htn hif hbd
      have hskip : ∀ (nq : Nat) {a' : Act}, Ln.okP bs (R left) most i = false → ownPostG W0.heap.size (KeepX W0.heap.size fun _ => False) (fun pre W' => (∀ y ∈ pre.map Subtype.val, Ln.okP bs (R left) most y = false) ∧ KeepX W0.heap.size (fun _ => False) W0 W') (WkX w bs R base pb left p most l O) (pre ++ [(⟨i, hmem⟩ : Ix bs p)]) W' .normal a' (W'.drewN nq) := fun nq a' hno => by
        refine ⟨⟨Nat.le_refl _, fun _ _ _ h _ => h⟩, (KeepX.refl _ _ _).drewN _, fun z hz => ?_, i3.drewN _⟩
        rw [List.map_append, List.mem_append] at hz
        rcases hz with hz | hz
        · exact HI1.out z hz
        · simp only [List.map_cons, List.map_nil, List.mem_cons, List.not_mem_nil, or_false] at hz
          rw [hz]
          exact hno
      have SKIP := Lib.hid hskip
      clear hskip
      have hP1 := hP0.below hbW (by omega)
      have hO1 := own_below hO0 hbW
      rcases hyn : (y == 9223372036854775807) with _ | _
      · have hye : y ≠ Ln.NONE := by simpa [Ln.NONE] using hyn
        have hyb := HYR.out.resolve_left hye
        have hy1 := hyb.1
        have hy2 := hyb.2
        clear hyb
        have HYE := Lib.hid hye
        clear hye
        rcases hlt : decide (m + y ≤ most) with _ | _
        · have hno : Ln.okP bs (R left) most i = false := by rw [HOP.out, hlt]; simp
          have HNO := Lib.hid hno
          clear hno
          gi_wp2_with (fail)
          refine wpIn_region_quiet_round (F := Fence.wide) rfl (by kernel_rfl) (by kernel_rfl) (by kernel_rfl) ?_
          repeat (gi_big_quiet_step (fail))
          refine wpQuietIn_nil ?_
          intro _ hw'
          obtain ⟨nq1, hw''⟩ := hw'
          subst hw''
          gi_wp2_with (fail)
          exact SKIP.out nq1 HNO.out
        · have hyes : Ln.okP bs (R left) most i = true := by rw [HOP.out, hlt]; simp [HYE.out]
          have HYES := Lib.hid hyes
          clear hyes
          gi_wp2_with (fail)
          refine wpIn_region_quiet_round (F := Fence.wide) rfl (by kernel_rfl) (by kernel_rfl) (by kernel_rfl) ?_
          repeat (gi_big_quiet_step (fail))
          refine wpQuietIn_nil ?_
          intro _ hw'
          obtain ⟨nq1, hw''⟩ := hw'
          subst hw''
          have cP := hP1.cell 0
          simp only [List.getElem?_toArray, List.getElem?_cons_zero] at cP
          have hOn : ((W'.drewN nq1).alloc (.cells #[.int .i64 (i : Int)] 3)).ownsRow base 3 1 O l.length (nlist l) := World.ownsRow.alloc (w := W'.drewN nq1) hO1 _
          have hpO : some pb ≠ O.ownBlock := off_ne hOn (by omega)
          have hOlt : ∀ j, O.ownBlock = some j → base ≤ j ∧ j < w.heap.size := fun j e => hO.lt j e
          have hQ : ∀ (w1 : World) (v' : Value), w1.ownsRow base 3 1 v' (l.length + 1) (nlist l ++ [.int .i64 (i : Int)]) → ((W'.drewN nq1).alloc (.cells #[.int .i64 (i : Int)] 3)).grownBy w1 O.ownBlock →
              w1.cell? ⟨pb, 0, none⟩ = some O ∧ w1.frozen? ⟨pb, 0, none⟩ = false ∧
              (w1.setCell ⟨pb, 0, none⟩ v').cell? ⟨wb, 0, none⟩ = some (.func (.func 92) #[] #[.pointer (some ⟨cb, 0, none⟩), .pointer (some ⟨rb, 0, none⟩), .pointer (some ⟨pb, 0, none⟩), .pointer (some ⟨wb, 0, none⟩)]) ∧
              (w1.setCell ⟨pb, 0, none⟩ v').cell? ⟨Bx, 1, none⟩ = some (.int .i64 tn) ∧ (w1.setCell ⟨pb, 0, none⟩ v').cell? ⟨Bx, 2, none⟩ = some (.int .i64 m) ∧
              (w1.setCell ⟨pb, 0, none⟩ v').cell? ⟨w.heap.size, 0, none⟩ = some (.int .i64 L) ∧ (w1.setCell ⟨pb, 0, none⟩ v').cell? ⟨w.heap.size + 1, 0, none⟩ = some (.int .i64 most) ∧
              Hid (Wk (w1.setCell ⟨pb, 0, none⟩ v') base B nb N bs A c fr R gr nR cR cb rb pb wb ∧ Bk (w1.setCell ⟨pb, 0, none⟩ v') pb 25 #[v'] ∧
                (w1.setCell ⟨pb, 0, none⟩ v').ownsRow base 3 1 v' (l ++ [i]).length (nlist (l ++ [i])) ∧ KeepX W'.heap.size (fun j => j = pb ∨ O.ownBlock = some j) W' (w1.setCell ⟨pb, 0, none⟩ v')) := fun w1 v' hown hgrow => by
            have hk0 : KeepX W'.heap.size (fun j => j = pb ∨ O.ownBlock = some j) W' ((W'.drewN nq1).alloc (.cells #[.int .i64 (i : Int)] 3)) := ((KeepX.refl _ _ _).drewN nq1).alloc (Nat.le_refl _) _
            have hk1 : KeepX W'.heap.size (fun j => j = pb ∨ O.ownBlock = some j) W' w1 := hk0.trans (KeepX.of_grown hgrow hk0.size (fun k e _ => .inr e))
            have hk2 : KeepX W'.heap.size (fun j => j = pb ∨ O.ownBlock = some j) W' (w1.setCell ⟨pb, 0, none⟩ v') := hk1.setCell (fun _ => .inl rfl) v'
            have hPw : Bk w1 pb 25 #[O] := Bk.grown (Bk.alloc (w := W'.drewN nq1) hP1 _) hgrow hpO
            have hx1 : ∀ {g t cs}, Bk W' g t cs → g ≠ pb → (∀ j, O.ownBlock = some j → g ≠ j) → Bk (w1.setCell ⟨pb, 0, none⟩ v') g t cs := fun {g t cs} h h1 h2 => hk2.bk h h.lt (fun e => by
              rcases e with e | e
              · exact h1 e
              · exact h2 _ e rfl)
            have hL := hx1 (kl.below hbW (by omega)) (by omega) (fun j e => by have := hOlt j e; omega)
            have hM := hx1 (km.below hbW (by omega)) (by omega) (fun j e => by have := hOlt j e; omega)
            have hX := hx1 bX (by omega) (fun j e => by have := hOlt j e; omega)
            have hF := hx1 hWk.cw hWk.h2.2.2.2.2 (fun j e => by have := hOlt j e; omega)
            refine ⟨hPw.cell 0, hPw.frozen 0, hF.cell 0, (hX.cell 1).trans (by rw [show (Ln.bd bs i).t = tn from HTN.out]; rfl), (hX.cell 2).trans (by rw [show (Ln.bd bs i).m = m from HMM.out]; rfl), hL.cell 0, hM.cell 0,
              ⟨hWk.keep hk2 (by omega) (fun j hj hne e => ?_), hPw.set 0 v', ?_, hk2⟩⟩
            · rcases e with e | e
              · exact hne e
              · have := hOlt j e; omega
            · have := hown.kept (grown_setCell w1 ⟨pb, 0, none⟩ v') (own_off hown h1.2.2.2.2)
              rw [nlist_snoc] at this
              simpa using this
          have HQ := Lib.hid hQ
          clear hQ
          gi_wp2_with (first
            | (refine wpListIn_append_own_at _ rfl _ _ 25 rfl base 3 i0 _ 1 8 Try.underlying25 hi0 hz0 hz1 hz2 rfl (by omega) O _ _ rfl hOn ⟨W'.heap.size, 0, none⟩ 1 1 [.int .i64 (i : Int)] rfl rfl (World.news_of_block (cs := #[.int .i64 (i : Int)]) (t := 3) (fr := (0, 0)) (heap_alloc_new (W'.drewN nq1) _)) (by simp [Value.oneCell']) (by unfold maxLen; omega) (by omega) (by rw [World.size_alloc]; show base ≤ W'.heap.size + 1; omega) ?_; intro v' w1 hown hgrow hnil hat; obtain ⟨A3, c3', hv3, hrd3, _⟩ := ownB_rd hown (by simp [nlist]); subst hv3; obtain ⟨q1, q2, q3, q4, q5, q6, q7, QQ⟩ := HQ.out w1 _ hown hgrow)
            | (refine ⟨trivial, ?_⟩; gi_at_call 92; refine (callsIn_wide.2 (IH.out tn (most - m) (l ++ [i]) _ _ (by omega) htN (by omega) (by omega) (by simp; omega) QQ.out.1 QQ.out.2.1 QQ.out.2.2.1)).mono ?_; rintro e w3 ⟨O3, rfl, hP3, hO3, hk3, hsm3⟩))
          have hk2 := QQ.out.2.2.2
          have hst : ∀ k, (Value.slice A3 (l.length + 1) c3').ownBlock = some k → O.ownBlock = some k ∨ k = W'.heap.size + 1 := fun k e => by
            rcases hat with h | h
            · exact .inl (h.symm.trans e)
            · refine .inr ?_
              rw [e, World.size_alloc] at h
              simpa using h
          have hz2 := hk2.size
          have hz3 := hk3.size
          refine ⟨⟨by omega, fun k o hk ho hc => ?_⟩, rfl, pre, ⟨i, hmem⟩, rfl, HI1.out, HYES.out, O3, hP3, ?_, ?_, ?_⟩
          · have hkl := (Array.getElem?_eq_some_iff.1 ho).1
            refine (hk3.block k (by omega) (fun e => ?_)).trans ((hk2.block k hkl (fun e => ?_)).trans ho)
            · rcases e with e | e
              · omega
              · rcases hst k e with h | h
                · have := hOlt k h; omega
                · omega
            · rcases e with e | e
              · omega
              · have := hOlt k e; omega
          · rw [show (Ln.bd bs i).t = tn from HTN.out, show (Ln.bd bs i).m = m from HMM.out, Int.toNat_natCast, List.append_cons]
            exact hO3
          · refine (HK0.trans (i3.mono (by omega) (fun _ _ h => h.elim))).trans ((hk2.mono (by omega) (fun _ _ h => h)).trans (hk3.mono (by omega) (fun k hk h => ?_)))
            rcases h with h | h
            · exact .inl h
            · rcases hst k h with h | h
              · exact .inr h
              · omega
          · rcases hsm3 with ⟨h, _⟩ | ⟨_, h⟩
            · obtain ⟨b3, o3, hA3, _⟩ := hrd3.2 (by omega)
              exact ⟨_, _, _, by rw [h, hA3]⟩
            · exact h
      · have hye : y = Ln.NONE := by simpa [Ln.NONE] using hyn
        have hno : Ln.okP bs (R left) most i = false := by rw [HOP.out, hye]; simp
        have HNO := Lib.hid hno
        clear hye hno
        gi_wp2_with (fail)
        refine wpIn_region_quiet_round (F := Fence.wide) rfl (by kernel_rfl) (by kernel_rfl) (by kernel_rfl) ?_
        repeat (gi_big_quiet_step (fail))
        refine wpQuietIn_nil ?_
        intro _ hw'
        obtain ⟨nq1, hw''⟩ := hw'
        subst hw''
        gi_wp2_with (fail)
        exact SKIP.out nq1 HNO.out
    case done =>
      rintro D ys W' hD rfl ⟨i1, i3⟩ hKD
      gi_wp2_with (fail)
      rw [Exit.noGoto_normal]
      have hbW : Below W0.heap.size W0 W' := i3.below (Nat.le_refl _) (fun _ _ h => h)
      refine leaves_marks [D] _ (by simp) (fun E hE => by simp only [List.mem_cons, List.not_mem_nil, or_false] at hE; rw [hE]; exact hKD) (fun w' hw => ?_)
      have hz := hbW.size
      have hbw' : Below W0.heap.size W0 w' := hbW.trans (hw.below (by omega) (fun j hj e => by simp only [List.mem_cons, List.not_mem_nil, or_false] at e; omega))
      have hnone : (Ln.idx bs p).find? (Ln.okP bs (R left) most) = none := by
        rw [List.find?_eq_none]
        intro y hy
        rw [i1 y (by simpa using hy)]
        simp
      refine ⟨_, results_none rfl _ _ _, O, rfl, hP0.below hbw' (by omega), ?_, HK0.trans (KeepX.of_below (hbw'.mono (by omega)) _), .inl ⟨rfl, by rw [← hL, Ln.wkF_none hnone]⟩⟩
      rw [← hL, Ln.wkF_none hnone, List.append_nil]
      exact own_below hO0 hbw'
    case stop =>
      rintro D cc pre W' hD hpre hix hKD
      obtain ⟨rfl, pre', x, rfl, hno, hyes, O', hP', hO', hK', hsm⟩ := hix
      gi_wp2_with (fail)
      rw [Exit.noGoto_normal]
      refine leaves_marks [D] _ (by simp) (fun E hE => by simp only [List.mem_cons, List.not_mem_nil, or_false] at hE; rw [hE]; exact hKD) (fun w' hw => ?_)
      have hzK := hK'.size
      have hDl := (Array.getElem?_eq_some_iff.1 hKD).1
      have hsome : (Ln.idx bs p).find? (Ln.okP bs (R left) most) = some x.1 := by
        obtain ⟨rest, hrest⟩ := hpre
        rw [List.find?_eq_some_iff_append]
        refine ⟨hyes, pre'.map Subtype.val, rest.map Subtype.val, ?_, fun y hy => by simp [hno y hy]⟩
        have := congrArg (List.map Subtype.val) hrest
        simpa using this.symm
      refine ⟨_, results_none rfl _ _ _, O', rfl, hw.bk hP' hP'.lt (fun e => by simp only [List.mem_cons, List.not_mem_nil, or_false] at e; omega), ?_, hK'.trans (hw.mono hzK (fun k hk e => by simp only [List.mem_cons, List.not_mem_nil, or_false] at e; omega)), .inr ⟨by rw [← hL, Ln.wkF_some hsome]; simp, hsm⟩⟩
      rw [← hL, Ln.wkF_some hsome]
      exact own_cells hO' (⟨hw.os, hw.tape, hw.output, hw.size, fun k hk hne => hw.block k hk (fun e => by simp only [List.mem_cons, List.not_mem_nil, or_false] at e; rw [e] at hne; exact hne rfl)⟩ : W'.grownBy w' (some D)) (fun r e => by cases e; exact ⟨_, hKD, rfl⟩)

end Go.Proofs.Yteiaofgkmgllcaa
