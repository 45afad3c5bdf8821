/-
  round: goes through all bounds once.
-/
import Derived.Test.YteiaofgkmgllcaaNet
set_option linter.unusedVariables false
set_option linter.unusedSimpArgs false
namespace Go.Proofs.Yteiaofgkmgllcaa
open Go.RowKit Go.Shelf

/-! ### A region that draws its order, inside a round: as outside, where nothing is deferred -/
theorem wpOpIn_round {F : Fence} {n : Nat} {P : Program} {ops : Array Oper} {Q : Exit → Act → World → Prop} {i l : Nat} {K K' : Act → World → Prop} {a : Act} {w : World} (hro : F.round = none) (hd : ∀ o ∈ ops, ∀ c, o.op ≠ .defer c)
    (hK : ∀ a w, K a w → K' a w) (h : wpOpIn F n P ops Q i K a w) : wpOpIn (F.inRound l) n P ops Q i K' a w := by
  have h := wpOpIn_mono hK h
  unfold wpOpIn at *
  cases ho : ops[i]? with
  | none => simpa [ho] using h
  | some o =>
    simp only [ho] at h ⊢
    split
    · rename_i hw
      simp only [hw, if_true] at h
      unfold Oper.wpIn at *
      refine ⟨h.1, ?_⟩
      have h2 := h.2
      rw [Oper.semAt_eq _ _ _ (hd o (Array.mem_of_getElem? ho))] at h2 ⊢
      exact h2
    · rename_i hw
      simp only [hw] at h
      exact h

theorem wpAnyIn_round {F : Fence} {n : Nat} {P : Program} {md : Region.Mode} {ops : Array Oper} {Q : Exit → Act → World → Prop} {l : Nat} (hro : F.round = none) (hd : ∀ o ∈ ops, ∀ c, o.op ≠ .defer c) :
    ∀ (fuel : Nat) (listed : Array Bool) (a : Act) (w : World), wpAnyIn F n P md ops Q fuel listed a w → wpAnyIn (F.inRound l) n P md ops Q fuel listed a w
  | 0, _, _, _, h => h
  | fuel + 1, _, _, _, h => ⟨h.1, fun i hi => wpOpIn_round hro hd (fun a w h => wpAnyIn_round hro hd fuel _ a w h) (h.2 i hi)⟩

def noDefer (l : List Oper) : Bool := l.all fun o => match o.op with | .defer _ => false | _ => true
theorem noDefer_spec {l : List Oper} (h : noDefer l = true) : ∀ o ∈ l.toArray, ∀ c, o.op ≠ .defer c := fun o ho c e => by
  have := List.all_eq_true.1 h o (by simpa using ho)
  rw [e] at this
  cases this

theorem wpIn_region_quiet_round {F : Fence} {n : Nat} {P : Program} {id lr : Nat} {Q : Exit → Act → World → Prop} {a : Act} {w : World} {l : List Oper} (hro : F.round = none) (hm : P.follows .mixedOrders = true) (hd : noDefer l = true) (hB : Region.lexB .any l.toArray = true)
    (h : wpQuietIn F n P l.toArray (fun w' => ∃ n, w' = w.drewN n) (fun a' => ∀ w', (∃ n, w' = w.drewN n) → Q .normal a' w') l a) : (Code.region id l.toArray true).wpIn (F.inRound lr) n P Q a w := by
  simp only [Region.lexB, Bool.and_eq_true] at hB
  refine wpIn_region_any hm (wpAnyIn_round hro (noDefer_spec hd) _ _ _ _ (wpAnyIn_of_quiet (C := fun w' => ∃ n, w' = w.drewN n) (Q := fun a' => ∀ w', (∃ n, w' = w.drewN n) → Q .normal a' w') hro (fun _ w' hw' h => h w' hw') _ _ _ _ ⟨1, rfl⟩ ?_))
  have := wpAnyQIn_lex (F := F) (n := n) (C := fun w' => ∃ n, w' = w.drewN n) (md := .any) hB.1 l 0 (Array.replicate l.toArray.size false) a (by simp) (by simpa using hB.2) h
  simpa using this

/-! ### A function that leaves with marks alone among its deferred calls -/
def mark (D : Nat) : Deferred := { target := .collected D, args := #[] }

theorem leaves_marks {F : Fence} {n : Nat} {P : Program} {fn : Func} {tmps : Array Value} {R : Ending → World → Prop} : ∀ (Ds : List Nat) (w : World), Ds.Nodup → (∀ D ∈ Ds, w.heap[D]? = some (.deferred (some []))) →
    (∀ w', KeepX w.heap.size (· ∈ Ds) w w' → LeavesIn F n P fn tmps R [] .returning w') → LeavesInM F n P fn tmps R (Ds.map mark) .returning w
  | [], w, _, _, h => h w (KeepX.refl _ _ _)
  | D :: Ds, w, hn, hD, h => by
    have hK := hD D (by simp)
    obtain ⟨hnot, hn'⟩ := List.nodup_cons.1 hn
    have hg := grownBy_putObj' w D (.deferred none)
    refine ⟨by simp, .inl ⟨D, _, rfl, run_takeDeferred hK, ?_⟩⟩
    refine leaves_marks Ds _ hn' (fun E hE => ?_) (fun w' hw => h w' ?_)
    · have hEl := (Array.getElem?_eq_some_iff.1 (hD E (by simp [hE]))).1
      rw [hg.block E hEl (fun e => by cases e; exact hnot hE)]
      exact hD E (by simp [hE])
    · have h1 : KeepX w.heap.size (· ∈ D :: Ds) w (w.putObj D (.deferred none)) := .of_grown hg (Nat.le_refl _) (fun k e _ => by cases e; simp)
      exact h1.trans (hw.mono (by simp [World.putObj]) (fun k _ hk => by simp [hk]))

theorem Bk.drewN {w : World} {g : Nat} {t : TypeId} {cs : Array Value} (h : Bk w g t cs) (n : Nat) : Bk (w.drewN n) g t cs := h

theorem own_bk {β : Type} (B g : Nat) (t : TypeId) (cs : β → Array Value) : OwnFrom B (fun (s : β) W => Bk W g t (cs s)) := fun s W W' row hs hg hr => by
  refine (hg.block g (Bk.lt hs) (fun e => ?_)).trans hs
  obtain ⟨_, o, ho, hc⟩ := hr g e.symm
  rw [show W.heap[g]? = _ from hs] at ho
  cases ho
  cases hc
theorem own_keepX {β : Type} {B M : Nat} {X : Nat → Prop} {w : World} (hM : M ≤ B) (hw : M ≤ w.heap.size) : OwnFrom B (fun (_ : β) W => KeepX M X w W) := fun s W W' row hs hg hr =>
  ⟨hg.os.trans hs.os, hg.tape.trans hs.tape, hg.output.trans hs.output, Nat.le_trans hs.size hg.size, fun k hk hx => by
    refine (hg.block k (by have := hs.size; omega) (fun e => ?_)).trans (hs.block k hk hx)
    have := (hr k e.symm).1
    omega⟩

attribute [local go_sem] Oper.semAt_some

set_option maxRecDepth 100000 in
set_option maxHeartbeats 4000000 in
theorem round_any {N : Nat} {bs : List Ln.Bd} (hok : Ln.Ok N bs) (B nb db : Nat) (A : Option Addr) (c : Nat) (fr : List Value) (d : List Int) (K : Int) (w : World) (hN : IsNet w B nb N bs A c fr) (hBd : B ≤ db)
    (hD : Bk w db 89 (av d)) (hd : d.length = 128) (hs : Ln.Sm K d) (h0 : 0 ≤ K) (hK : K ≤ 100000000000000000) :
    Calls Try.prog 88 #[.pointer (some ⟨nb, 0, none⟩), .pointer (some ⟨db, 0, none⟩)] w fun e w' =>
      e = .returned (.bool (Ln.roundF bs N (d, false)).2) ∧ Bk w' db 89 (av (Ln.roundF bs N (d, false)).1) ∧ KeepX w.heap.size (· = db) w w' := by
  have hm : Try.prog.follows .mixedOrders = true := by kernel_rfl
  have c0 := (hN.blk.cell 0).trans (ncells_0 _ _ _)
  have hnl := hN.blk.lt
  have hnB := hN.lt
  have hdl := hD.lt
  have htop := hok.top
  refine (callsIn_wide (n := 3)).1 ?_
  refine callsIn_of_wp_marks Try.func88 rfl trivial ?_ rfl
  simp only [Try.ntmps88, List.size_toArray, List.length_cons, List.length_nil, Nat.reduceAdd, Nat.reduceSub, Array.replicate_succ, Array.replicate_zero, List.push_toArray, List.append_toArray, List.nil_append, List.cons_append]
  gi_wp2_with (fail)
  have hK0 : KeepX w.heap.size (· = db) w ((w.alloc (.cells #[.pointer (some ⟨db, 0, none⟩)] 131)).alloc (.cells #[.bool false] 4)) := ((KeepX.refl _ _ _).alloc (Nat.le_refl _) _).alloc (by simp) _
  have kb0 := (Bk.new w 131 #[.pointer (some ⟨db, 0, none⟩)]).alloc (.cells #[.bool false] 4)
  have kl0 := Bk.new (w.alloc (.cells #[.pointer (some ⟨db, 0, none⟩)] 131)) 4 #[.bool false]
  rw [World.size_alloc] at kl0
  have kd0 := (hD.alloc (.cells #[.pointer (some ⟨db, 0, none⟩)] 131)).alloc (.cells #[.bool false] 4)
  refine wpIn_loop (fun a' W => ∃ (k : Nat) (Ds : List Nat) (v6 v15 v16 v17 v18 v19 v20 v21 v22 v23 v24 v25 v50 : Value), a' = { tmps := (Value.pointer (some ⟨nb, 0, none⟩) :: Value.pointer (some ⟨db, 0, none⟩) :: undef :: Value.pointer (some ⟨w.heap.size, 0, none⟩) :: Value.bool false :: Value.pointer (some ⟨w.heap.size + 1, 0, none⟩) :: v6 :: undef :: undef :: undef :: Value.pointer (some ⟨nb, 0, none⟩) :: Value.pointer (some ⟨nb, 0, none⟩) :: Value.pointer (some ⟨nb, 0, none⟩) :: Value.int .i64 (N : Int) :: Value.int .i64 (k : Int) :: v15 :: v16 :: v17 :: v18 :: v19 :: v20 :: v21 :: v22 :: v23 :: v24 :: v25 :: undef :: undef :: undef :: undef :: undef :: undef :: undef :: undef :: undef :: undef :: undef :: undef :: undef :: undef :: undef :: undef :: undef :: undef :: undef :: undef :: undef :: undef :: undef :: undef :: v50 :: undef :: []).toArray, defers := Ds.map mark } ∧ k ≤ N ∧ Ds.Nodup ∧ (∀ D ∈ Ds, w.heap.size + 2 ≤ D ∧ W.heap[D]? = some (.deferred (some []))) ∧
      Bk W db 89 (av (Ln.roundF bs k (d, false)).1) ∧ Bk W w.heap.size 131 #[.pointer (some ⟨db, 0, none⟩)] ∧ Bk W (w.heap.size + 1) 4 #[.bool (Ln.roundF bs k (d, false)).2] ∧ KeepX w.heap.size (· = db) w W)
    (fun a' _ => N - (intOf (a'.tmps.getD 14 undef)).toNat) ?start ?round
  case start => exact ⟨0, [], undef, undef, undef, undef, undef, undef, undef, undef, undef, undef, undef, undef, undef, rfl, Nat.zero_le _, List.nodup_nil, (fun D hD => by cases hD), kd0, kb0, kl0, hK0⟩
  case round =>
    rintro a' W ⟨k, Ds, v6, v15, v16, v17, v18, v19, v20, v21, v22, v23, v24, v25, v50, rfl, hk, hnd, hDs, kd, kb, kl, hKX⟩
    have hN' := hN.below (hKX.below (B := B) (by omega) (fun j hj e => by omega)) (Nat.le_refl _)
    have hsm := Ln.roundF_small hok (s := (d, false)) k hk ⟨hd, hs⟩ h0 hK
    have hstep := Ln.roundF_succ bs k (d, false)
    obtain ⟨s, hse⟩ : ∃ s, Ln.roundF bs k (d, false) = s := ⟨_, rfl⟩
    rw [hse] at kd kl hsm hstep
    obtain ⟨hlen, hsmall⟩ := hsm
    have HSE := Lib.hid hse
    have HST := Lib.hid hstep
    clear hse hstep
    have hwl := kl.lt
    have hw0 := kb.lt
    have hdW := kd.lt
    have hnW := hN'.blk.lt
    by_cases hlt : k < N
    · have hk128 : k < s.1.length := by omega
      have cd := (kd.cell k).trans (av_at hk128)
      have cb := (kb.cell 0)
      have hat := hsmall.at_ hk128
      have hi0 : (0 : Int) ≤ (k : Int) := Int.natCast_nonneg _
      have hi1 : (k : Int) < 128 := by omega
      obtain ⟨y, hy⟩ : ∃ y, Ln.gt s.1 k = y := ⟨_, rfl⟩
      rw [hy] at cd hat
      have HY := Lib.hid hy
      clear hy
      simp only [List.getElem?_toArray, List.getElem?_cons_zero] at cb
      rcases hyn : (y == 9223372036854775807) with _ | _
      · have hyne : y ≠ 9223372036854775807 := by simpa using hyn
        have hinv : Ln.Inv N (K + 2002000000 * k) s.1 k := ⟨hlen, hsmall, by rw [HY.out]; exact hyne⟩
        have hst : Ln.roundF bs (k + 1) (d, false) = Ln.relaxL bs (Ln.idx bs k) s := by
          rw [HST.out, Ln.relaxP, HY.out, if_neg (by simpa [Ln.NONE] using hyn)]
        have HS2 := Lib.hid hst
        have HI := Lib.hid hinv
        clear hst hinv
        gi_wp2_with (fail)
        gi_quiet (fail)
        gi_wp2_with (refine ⟨trivial, ?_⟩; gi_at_call 91; refine (edges_in _ nb k _).mono ?_; rintro e w' ⟨rfl, rfl⟩)
        have kp := (((Bk.new W 3 #[.int .i64 (k : Int)]).drewN nq).alloc (.cells #[.pointer (some ⟨nb, 0, none⟩)] 64)).alloc (.cells #[.int .i64 (k : Int)] 3)
        have kn := (Bk.new ((W.alloc (.cells #[.int .i64 (k : Int)] 3)).drewN nq) 64 #[.pointer (some ⟨nb, 0, none⟩)]).alloc (.cells #[.int .i64 (k : Int)] 3)
        have kq := Bk.new (((W.alloc (.cells #[.int .i64 (k : Int)] 3)).drewN nq).alloc (.cells #[.pointer (some ⟨nb, 0, none⟩)] 64)) 3 #[.int .i64 (k : Int)]
        have hsz : ((((W.alloc (.cells #[.int .i64 (k : Int)] 3)).drewN nq).alloc (.cells #[.pointer (some ⟨nb, 0, none⟩)] 64)).alloc (.cells #[.int .i64 (k : Int)] 3)).heap.size = W.heap.size + 3 := by simp [World.drewN]
        have hBW : Below W.heap.size W ((((W.alloc (.cells #[.int .i64 (k : Int)] 3)).drewN nq).alloc (.cells #[.pointer (some ⟨nb, 0, none⟩)] 64)).alloc (.cells #[.int .i64 (k : Int)] 3)) :=
          ((below_drewN ((Below.refl _ W).alloc (Nat.le_refl _) _) nq).alloc (by simp [World.drewN]) _).alloc (by simp [World.drewN]; omega) _
        have e1 : (((W.alloc (.cells #[.int .i64 (k : Int)] 3)).drewN nq)).heap.size = W.heap.size + 1 := by simp [World.drewN]
        rw [World.size_alloc, e1] at kq
        rw [e1] at kn
        have kd' := kd.below hBW hdW
        have kb' := kb.below hBW hw0
        have kl' := kl.below hBW hwl
        have hN0 := hN'.below hBW (by have := hKX.size; omega)
        have hDs' : ∀ D ∈ Ds, w.heap.size + 2 ≤ D ∧ D < W.heap.size ∧ ((((W.alloc (.cells #[.int .i64 (k : Int)] 3)).drewN nq).alloc (.cells #[.pointer (some ⟨nb, 0, none⟩)] 64)).alloc (.cells #[.int .i64 (k : Int)] 3)).heap[D]? = some (.deferred (some [])) := fun D hD =>
          ⟨(hDs D hD).1, (Array.getElem?_eq_some_iff.1 (hDs D hD).2).1, (hBW.block D (Array.getElem?_eq_some_iff.1 (hDs D hD).2).1).trans (hDs D hD).2⟩
        have hKX' := hKX.trans (KeepX.of_below (hBW.mono hKX.size) (· = db))
        obtain ⟨W0, hW0⟩ : ∃ W0, (((W.alloc (.cells #[.int .i64 (k : Int)] 3)).drewN nq).alloc (.cells #[.pointer (some ⟨nb, 0, none⟩)] 64)).alloc (.cells #[.int .i64 (k : Int)] 3) = W0 := ⟨_, rfl⟩
        rw [hW0] at kp kn kq hsz kd' kb' kl' hN0 hKX' ⊢
        simp only [hW0] at hDs'
        clear hW0 hBW e1
        have hnX : ∀ j, j < B → ¬ (j = db ∨ j = w.heap.size + 1) := fun j hj e => by omega
        have hlen2 := hok.len
        refine wpIn_rangeFunc_ownH (F := Fence.wide) (n := 3) rfl (by omega) (gf := 96) (lb := #[.pointer (some ⟨W.heap.size + 1, 0, none⟩), .pointer (some ⟨W.heap.size + 1 + 1, 0, none⟩)]) rfl trivial (enters_of Try.func96 (by kernel_rfl) rfl)
          (edges_stops 2 (by omega) (W.heap.size + 1) (W.heap.size + 1 + 1) W0.heap.size B nb N k (fun j => j = db ∨ j = w.heap.size + 1) bs A c fr (by have := hKX.size; omega) hnX (by omega) (by omega) (by omega) (by omega) (by omega) hlen2 W0 (Nat.le_refl _) kn kq hN0)
          keepX_t (keepX_b (Nat.le_refl _)) (Below.refl _ _) (fun _ => rfl)
          (fun pre W' => (Bk W' db 89 (av (Ln.relaxL bs (pre.map Subtype.val) s).1) ∧ Bk W' (w.heap.size + 1) 4 #[.bool (Ln.relaxL bs (pre.map Subtype.val) s).2]) ∧ KeepX W0.heap.size (fun j => j = db ∨ j = w.heap.size + 1) W0 W')
          (fun _ _ _ => False)
          (OwnFrom.and (OwnFrom.and (own_bk _ _ _ _) (own_bk _ _ _ _)) (own_keepX (Nat.le_refl _) (Nat.le_refl _)))
          (fun _ _ _ _ _ hs _ _ => hs)
          ⟨⟨kd', kl'⟩, KeepX.refl _ _ _⟩
          (fun x a' W' => ∃ Bx, W0.heap.size ≤ Bx ∧ Bk W' Bx 50 #[.int .i64 (Ln.bd bs x.1).f, .int .i64 (Ln.bd bs x.1).t, .int .i64 (Ln.bd bs x.1).m, .int .i64 (Ln.bd bs x.1).r] ∧ a' = { tmps := (Value.pointer (some ⟨nb, 0, none⟩) :: Value.pointer (some ⟨db, 0, none⟩) :: undef :: Value.pointer (some ⟨w.heap.size, 0, none⟩) :: Value.bool false :: Value.pointer (some ⟨w.heap.size + 1, 0, none⟩) :: Value.pointer (some ⟨W.heap.size, 0, none⟩) :: undef :: Value.pointer (some ⟨Bx, 0, none⟩) :: undef :: Value.pointer (some ⟨nb, 0, none⟩) :: Value.pointer (some ⟨nb, 0, none⟩) :: Value.pointer (some ⟨nb, 0, none⟩) :: Value.int .i64 (N : Int) :: Value.int .i64 (k : Int) :: Value.bool true :: Value.int .i64 (k : Int) :: Value.pointer (some ⟨db, 0, none⟩) :: Value.int .i64 (k : Int) :: Value.pointer (some ⟨db, 0, none⟩) :: Value.pointer (some ⟨db, k, none⟩) :: Value.int .i64 y :: Value.bool false :: Value.pointer (some ⟨nb, 0, none⟩) :: Value.int .i64 (k : Int) :: Value.func (.func 96) #[] #[.pointer (some ⟨W.heap.size + 1, 0, none⟩), .pointer (some ⟨W.heap.size + 1 + 1, 0, none⟩)] :: Value.int .i64 (x.1 : Int) :: Value.agg #[.int .i64 (Ln.bd bs x.1).f, .int .i64 (Ln.bd bs x.1).t, .int .i64 (Ln.bd bs x.1).m, .int .i64 (Ln.bd bs x.1).r] :: undef :: undef :: undef :: undef :: undef :: undef :: undef :: undef :: undef :: undef :: undef :: undef :: undef :: undef :: undef :: undef :: undef :: undef :: undef :: undef :: undef :: undef :: v50 :: undef :: []).toArray, defers := [] })
          (fun x a' _ X Y row hs hg hr => by obtain ⟨Bx, h1, h2, h3⟩ := hs; exact ⟨Bx, h1, own_bk W0.heap.size Bx 50 (fun (_ : Unit) => _) () X Y row h2 hg hr, h3⟩)
          ?assign ?body ?done ?stop
        case assign =>
          rintro l pre x W' KK ⟨⟨i1, i2⟩, i3⟩ hKK
          dsimp only [ixv]
          gi_wp2_with (fail)
          exact hKK _ _ ((KeepsOthers.alloc _ _).from _) ((KeepX.refl _ _ _).alloc i3.size _) ⟨⟨i1.alloc _, i2.alloc _⟩, i3.alloc i3.size _⟩ ⟨W'.heap.size, i3.size, Bk.new W' _ _, rfl⟩
        case body =>
          rintro l pre x a' W' hl ⟨r, hr⟩ ⟨⟨i1, i2⟩, i3⟩ ⟨Bx, hBx, bX, rfl⟩ hltp
          obtain ⟨i, hmem⟩ := x
          obtain ⟨hib, hif⟩ := Ln.idx_lt hmem
          have hb := hok.each _ (Ln.bd_mem hib)
          have hil : (Ln.idx bs k).length ≤ bs.length := Ln.idxk_length bs bs.length k
          have hinv := Ln.relaxL_inv hok (pre.map Subtype.val) (fun j hj => by
            obtain ⟨z, _, rfl⟩ := List.mem_map.1 hj
            exact z.2) HI.out (by simp; omega)
          have hsn := Ln.relaxL_snoc bs (pre.map Subtype.val) i s
          simp only [List.map_append, List.map_cons, List.map_nil]
          obtain ⟨s', hs'⟩ : ∃ s', Ln.relaxL bs (pre.map Subtype.val) s = s' := ⟨_, rfl⟩
          rw [hs'] at i1 i2 hinv hsn
          have h1 := hinv.small.at_ (k := k) (by have := hinv.len; omega)
          have h1 := h1.resolve_left hinv.there
          obtain ⟨tn, htn⟩ : ∃ tn : Nat, (Ln.bd bs i).t = tn := ⟨(Ln.bd bs i).t.toNat, by omega⟩
          have htl : tn < s'.1.length := by have := hinv.len; omega
          have ht128 : (tn : Int) < 128 := by omega
          have hrx : Ln.relax s' (Ln.bd bs i) = if Ln.gt s'.1 k + (Ln.bd bs i).m < Ln.gt s'.1 tn then (s'.1.set tn (Ln.gt s'.1 k + (Ln.bd bs i).m), true) else s' := by
            rw [Ln.relax, hif, htn]
            simp
          have d1 := (i1.cell k).trans (av_at (by have := hinv.len; omega))
          have d2 := (i1.cell tn).trans (av_at htl)
          have f2 := i1.frozen tn
          have p1 := (i3.bk kp (by omega) (by omega)).cell 0
          have p2 := (i3.bk kb' (by omega) (by omega)).cell 0
          have p3 := i2.frozen 0
          have p4 := i2.cell 0
          have x1 := bX.cell 1
          have x2 := bX.cell 2
          simp only [List.getElem?_toArray, List.getElem?_cons_zero, List.getElem?_cons_succ] at p1 p2 p4 x1 x2
          rw [htn] at x1
          have hbx := bX.lt
          have hdx := i1.lt
          obtain ⟨m, hmm⟩ : ∃ m, (Ln.bd bs i).m = m := ⟨_, rfl⟩
          rw [hmm] at x2 hrx hb
          obtain ⟨a1, ha1⟩ : ∃ a1, Ln.gt s'.1 k = a1 := ⟨_, rfl⟩
          obtain ⟨a2, ha2⟩ : ∃ a2, Ln.gt s'.1 tn = a2 := ⟨_, rfl⟩
          rw [ha1] at d1 h1 hrx
          rw [ha2] at d2 hrx
          have hplen : pre.length ≤ 2002 := by omega
          have h1a : -1000000000000000000 ≤ a1 := by have := h1.1; simp at this; omega
          have h1b : a1 ≤ 1000000000000000000 := by have := h1.2; simp at this; omega
          have hm1 := hb.2.2.1
          have hm2 := hb.2.2.2
          have HR := Lib.hid hrx
          have HN := Lib.hid hsn
          have HI1 := Lib.hid i1
          have HI2 := Lib.hid i2
          have HS' := Lib.hid hs'
          clear hrx hsn i1 i2 hs' ha1 ha2 hmm htn hif hinv h1 hb hsmall hat
          have hdec : (decide (a1 + m < a2) = true) ∨ (decide (a1 + m < a2) = false) := by cases decide (a1 + m < a2) <;> simp
          rcases hdec with hdec | hdec
          · gi_wp2_with (fail)
            refine wpIn_region_quiet_round (F := Fence.wide) rfl (by kernel_rfl) (by kernel_rfl) (by kernel_rfl) ?_
            repeat (gi_big_quiet_step (fail))
            refine wpQuietIn_nil ?_
            intro _ hw'
            obtain ⟨nq1, hw''⟩ := hw'
            subst hw''
            gi_wp2_with (fail)
            refine wpIn_region_quiet_round (F := Fence.wide) rfl (by kernel_rfl) (by kernel_rfl) (by kernel_rfl) ?_
            repeat (gi_big_quiet_step (fail))
            refine wpQuietIn_nil ?_
            intro _ hw'
            obtain ⟨nq2, hw''⟩ := hw'
            subst hw''
            gi_wp2_with (fail)
            gi_region_with_o (fail)
            all_goals gi_wp2_with (fail)
            all_goals
              have kk : Bk (W'.drewN (nq1 + nq2 + 1)) db 89 (av s'.1) := HI1.out
              have ll : Bk (W'.drewN (nq1 + nq2 + 1)) (w.heap.size + 1) 4 #[.bool s'.2] := HI2.out
              have kx : KeepX W0.heap.size (fun j => j = db ∨ j = w.heap.size + 1) W' (W'.drewN (nq1 + nq2 + 1)) := (KeepX.refl _ _ W').drewN _
              have ko : KeepsOthers W' (W'.drewN (nq1 + nq2 + 1)) := ⟨Nat.le_refl _, fun _ _ h _ => h⟩
              have k2 := (kk.set tn (.int .i64 (a1 + m))).far (p := ⟨w.heap.size + 1, 0, none⟩) (by simp; omega) (.bool true)
              have l2 := (ll.far (p := ⟨db, tn, none⟩) (by simp; omega) (.int .i64 (a1 + m))).set 0 (.bool true)
              have kx2 := (kx.setCell (p := ⟨db, tn, none⟩) (fun _ => .inl rfl) (.int .i64 (a1 + m))).setCell (p := ⟨w.heap.size + 1, 0, none⟩) (fun _ => .inr rfl) (.bool true)
              have e2 : Ln.relaxL bs (List.map Subtype.val pre ++ [i]) s = (s'.1.set tn (a1 + m), true) := by rw [HN.out, HR.out, if_pos (by simpa using hdec)]
              rw [av_set] at k2
              refine ⟨(ko.trans ((KeepsOthers.setCell _ _ _).trans (KeepsOthers.setCell _ _ _))).from _, kx2, ⟨⟨?_, ?_⟩, i3.trans kx2⟩⟩
              · simp only [List.map_append, List.map_cons, List.map_nil]
                rw [e2]
                exact k2
              · simp only [List.map_append, List.map_cons, List.map_nil]
                rw [e2]
                exact l2
          · gi_wp2_with (fail)
            refine wpIn_region_quiet_round (F := Fence.wide) rfl (by kernel_rfl) (by kernel_rfl) (by kernel_rfl) ?_
            repeat (gi_big_quiet_step (fail))
            refine wpQuietIn_nil ?_
            intro _ hw'
            obtain ⟨nq1, hw''⟩ := hw'
            subst hw''
            gi_wp2_with (fail)
            refine wpIn_region_quiet_round (F := Fence.wide) rfl (by kernel_rfl) (by kernel_rfl) (by kernel_rfl) ?_
            repeat (gi_big_quiet_step (fail))
            refine wpQuietIn_nil ?_
            intro _ hw'
            obtain ⟨nq2, hw''⟩ := hw'
            subst hw''
            gi_wp2_with (fail)
            have e2 : Ln.relaxL bs (List.map Subtype.val pre ++ [i]) s = s' := by rw [HN.out, HR.out, if_neg (by simpa using hdec)]
            have kx : KeepX W0.heap.size (fun j => j = db ∨ j = w.heap.size + 1) W' ((W'.drewN nq1).drewN nq2) := ((KeepX.refl _ _ W').drewN nq1).drewN nq2
            have ko : KeepsOthers W' ((W'.drewN nq1).drewN nq2) := ⟨Nat.le_refl _, fun _ _ h _ => h⟩
            refine ⟨ko.from _, kx, ⟨⟨?_, ?_⟩, i3.trans kx⟩⟩
            · simp only [List.map_append, List.map_cons, List.map_nil]
              rw [e2]
              exact HI1.out
            · simp only [List.map_append, List.map_cons, List.map_nil]
              rw [e2]
              exact HI2.out
        case done =>
          rintro D ys W' hD rfl ⟨⟨i1, i2⟩, i3⟩ hKD
          gi_wp2_with (fail)
          have hmap : List.map Subtype.val (Ln.idx bs k).attach = Ln.idx bs k := by simp
          rw [hmap, ← HS2.out] at i1 i2
          have hDn : D ∉ Ds := fun hmem => by have := (hDs' D hmem).2.1; omega
          refine ⟨⟨k + 1, D :: Ds, _, _, _, _, _, _, _, _, _, _, _, _, _, rfl, by omega, List.nodup_cons.2 ⟨hDn, hnd⟩, fun E hE => ?_, i1, i3.bk kb' (by omega) (by omega), i2, hKX'.trans (i3.mono (by omega) (fun j hj e => by omega))⟩, ?_⟩
          · rcases List.mem_cons.1 hE with rfl | hE
            · exact ⟨by omega, hKD⟩
            · obtain ⟨q1, q2, q3⟩ := hDs' E hE
              refine ⟨q1, (i3.block E (by omega) (fun e => ?_)).trans q3⟩
              rcases e with rfl | e
              · rw [show W0.heap[E]? = _ from kd'] at q3
                cases q3
              · omega
          · simp [intOf]
            omega
        case stop =>
          rintro D cc pre W' _ _ h _
          exact h.elim
      · have hst : Ln.roundF bs (k + 1) (d, false) = s := by
          rw [HST.out, Ln.relaxP, HY.out, if_pos (by simpa [Ln.NONE] using hyn)]
        have HS2 := Lib.hid hst
        clear hst
        gi_wp2_with (fail)
        gi_quiet (fail)
        gi_wp2_with (fail)
        refine ⟨⟨k + 1, Ds, _, _, _, _, _, _, _, _, _, _, _, _, _, rfl, by omega, hnd, fun D hD => ⟨(hDs D hD).1, (Below.heap_alloc W _ D (Array.getElem?_eq_some_iff.1 (hDs D hD).2).1).trans (hDs D hD).2⟩, ?_, kb.alloc _, ?_, ((hKX.alloc hKX.size _).drewN _)⟩, ?_⟩
        · rw [HS2.out]
          exact kd.alloc _
        · rw [HS2.out]
          exact kl.alloc _
        · simp [intOf]
          omega
    · obtain rfl : k = N := by omega
      have cl := kl.cell 0
      simp only [List.getElem?_toArray, List.getElem?_cons_zero] at cl
      gi_wp2_with (fail)
      refine leaves_marks Ds W hnd (fun D hD => (hDs D hD).2) (fun w' hw => ⟨_, results_tmp rfl _ _ _, ?_⟩)
      have hdn : db ∉ Ds := fun hmem => by
        have := (hDs db hmem).2
        rw [show W.heap[db]? = _ from kd] at this
        cases this
      rw [HSE.out]
      exact ⟨rfl, hw.bk kd hdW hdn, hKX.trans (hw.mono hKX.size (fun j hj hmem => by have := (hDs j hmem).1; omega))⟩

end Go.Proofs.Yteiaofgkmgllcaa
