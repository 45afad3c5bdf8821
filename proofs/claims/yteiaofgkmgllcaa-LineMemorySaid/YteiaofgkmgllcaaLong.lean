/-
  longer: the least sums of paths with one bound more.
-/
import Derived.Test.YteiaofgkmgllcaaSpan
import Derived.Test.YteiaofgkmgllcaaSettle
set_option linter.unusedVariables false
set_option linter.unusedSimpArgs false
namespace Go.Proofs.Yteiaofgkmgllcaa
open Go.RowKit Go.Shelf

theorem wpListIn_load_row {F : Fence} {n : Nat} {P : Program} {ops : Array Oper} {rest : List Oper} {o : Oper} {a : Act} {w : World} {Q : Exit → Act → World → Prop} (hgd : o.guard = none) (ty : TypeId) (x : Operand) (ho : o.op = .load ty x)
    (g : Nat) (hx : a.eval x = .pointer (some ⟨g, 0, none⟩)) (t : TypeId) (cs : Array Value) (fr : Nat × Nat) (d : TypeDesc) (hg : w.heap[g]? = some (.cells cs t fr))
    (hu : P.underlying ty = some d) (hd : (match d with | .struct _ | .array _ _ => true | _ => false) = true) (hi : (P.info? ty).map (·.size) = some cs.size)
    (h : wpListIn F n P ops Q rest (a.put o.dst (.agg cs)) w) : wpListIn F n P ops Q (o :: rest) a w := by
  refine wpListIn_plain hgd fun K hK' => ?_
  unfold Oper.wpIn
  refine ⟨?_, ?_⟩
  · simp [Oper.about, ho]
  · rw [Oper.semAt_plain F _ _ (by rw [ho]; intro c hc'; cases hc')]
    simp only [execOp, ho, hx, Instr.loadAt, Instr.sureAddr, Sem.run_bind, Sem.run_pure, Result.andThen_ok, run_loadVar_row w g t ty cs fr d hg hu hd hi]
    exact hK' _ _ h

theorem wpListIn_store_row {F : Fence} {n : Nat} {P : Program} {ops : Array Oper} {rest : List Oper} {o : Oper} {a : Act} {w : World} {Q : Exit → Act → World → Prop} (hgd : o.guard = none) (ty : TypeId) (x y : Operand) (ho : o.op = .store ty x y)
    (g : Nat) (cells : Array Value) (hx : a.eval x = .pointer (some ⟨g, 0, none⟩)) (hy : a.eval y = .agg cells)
    (t : TypeId) (old : Array Value) (hg : w.heap[g]? = some (.cells old t (0, 0))) (hi : (P.info? ty).map (·.size) = some cells.size)
    (hold : old.size = cells.size) (h1 : cells.all (·.oneCell') = true)
    (h : wpListIn F n P ops Q rest (a.put o.dst undef) (w.setRow g cells)) : wpListIn F n P ops Q (o :: rest) a w := by
  refine wpListIn_plain hgd fun K hK' => ?_
  unfold Oper.wpIn
  refine ⟨?_, ?_⟩
  · simp [Oper.about, ho]
  · rw [Oper.semAt_plain F _ _ (by rw [ho]; intro c hc'; cases hc')]
    simp only [execOp, ho, hx, hy, Instr.storeAt, Instr.sureAddr, Sem.run_bind, Sem.run_pure, Result.andThen_ok, run_storeVar_row w g t ty old cells hg hi hold h1]
    exact hK' _ _ h

attribute [local go_sem] Oper.semAt_some

set_option maxRecDepth 100000 in
set_option maxHeartbeats 4000000 in
theorem longer_any {N : Nat} {bs : List Ln.Bd} (hok : Ln.Ok N bs) (B nb : Nat) (A : Option Addr) (c : Nat) (fr : List Value) (d : List Int) (K : Int) (w : World) (hN : IsNet w B nb N bs A c fr) (hBw : B ≤ w.heap.size)
    (hd : d.length = 128) (hs : Ln.Sm K d) (h0 : 0 ≤ K) (hK : K ≤ 10000000000000000) :
    Calls Try.prog 82 #[.pointer (some ⟨nb, 0, none⟩), .agg (av d)] w fun e w' => e = .returned (.agg (av (Ln.lgF bs d N))) ∧ Below w.heap.size w w' := by
  have hm : Try.prog.follows .mixedOrders = true := by kernel_rfl
  have hnB := hN.lt
  have htop := hok.top
  have hz128 : Try.zeroCells89.size = (av Ln.nones).size := by rw [zero94]; exact av_same Ln.zeros_length Ln.nones_length
  have HZ := Lib.hid hz128
  clear hz128
  have hB0 : Below w.heap.size w ((w.alloc (.cells (av d) 89)).alloc (.cells Try.zeroCells89 89)) := ((Below.refl _ _).alloc (Nat.le_refl _) _).alloc (by simp) _
  have kd := (Bk.new w 89 (av d)).alloc (.cells Try.zeroCells89 89)
  have kr := Bk.new (w.alloc (.cells (av d) 89)) 89 Try.zeroCells89
  rw [World.size_alloc] at kr
  refine (callsIn_wide (n := 3)).1 ?_
  refine callsIn_of_wp_marks Try.func82 rfl trivial ?_ rfl
  simp only [Try.ntmps82, List.size_toArray, List.length_cons, List.length_nil, Nat.reduceAdd, Nat.reduceSub, Array.replicate_succ, Array.replicate_zero, List.push_toArray, List.append_toArray, List.nil_append, List.cons_append]
  gi_wp2_with (first
    | (refine ⟨trivial, ?_⟩; gi_at_call 76; refine (callsIn_wide.2 (unreached_any _)).mono ?_; rintro e w1 ⟨rfl, hb1⟩; have kd1 := kd.below hb1 (by simp; omega); have kr1 := kr.below hb1 (by simp); have hB1 := hB0.trans (hb1.mono (by simp; omega)); have hw1 := kr1.lt; have hw0 := kd1.lt)
    | (refine wpListIn_store_row rfl 89 (.tmp 5) (.tmp 9) rfl w1.heap.size _ rfl rfl 89 _ (Bk.new w1 _ _) (av_len94 Ln.nones_length) HZ.out (av_one _) ?_; obtain ⟨W2, hW2⟩ : ∃ W2, (w1.alloc (.cells Try.zeroCells89 89)).setRow w1.heap.size (av Ln.nones) = W2 := ⟨_, rfl⟩; have ko2 : Bk W2 w1.heap.size 89 (av Ln.nones) := (by rw [← hW2]; exact (Bk.new w1 _ _).row _); have kr2 : Bk W2 (w.heap.size + 1) 89 Try.zeroCells89 := (by rw [← hW2]; exact (kr1.alloc _).row_far (by omega) _); have kd2 : Bk W2 w.heap.size 89 (av d) := (by rw [← hW2]; exact (kd1.alloc _).row_far (by omega) _); have hB2 : Below w.heap.size w W2 := (by rw [← hW2]; exact (Bk.new w1 _ _).below_set (t := 89) hB1.size _ (hB1.alloc hB1.size _)); rw [hW2]; clear hW2; have hN2 := hN.below hB2 hBw; have c0 := (hN2.blk.cell 0).trans (ncells_0 _ _ _); have hnl2 := hN2.blk.lt))
  obtain ⟨ob, hob⟩ : ∃ ob, w1.heap.size = ob := ⟨_, rfl⟩
  rw [hob] at ko2 hw1 hw0 ⊢
  clear hob hb1 kd1 kr1 hB1 hB0 kd kr
  refine wpIn_loop (fun a' W => ∃ (k : Nat) (Ds : List Nat) (v6 v15 v16 v17 v18 v19 v40 : Value), a' = { tmps := (Value.pointer (some ⟨nb, 0, none⟩) :: Value.agg (av d) :: undef :: Value.pointer (some ⟨w.heap.size, 0, none⟩) :: Value.pointer (some ⟨w.heap.size + 1, 0, none⟩) :: Value.pointer (some ⟨ob, 0, none⟩) :: v6 :: undef :: undef :: Value.agg (av Ln.nones) :: Value.pointer (some ⟨nb, 0, none⟩) :: Value.pointer (some ⟨nb, 0, none⟩) :: Value.pointer (some ⟨nb, 0, none⟩) :: Value.int .i64 (N : Int) :: Value.int .i64 (k : Int) :: v15 :: v16 :: v17 :: v18 :: v19 :: undef :: undef :: undef :: undef :: undef :: undef :: undef :: undef :: undef :: undef :: undef :: undef :: undef :: undef :: undef :: undef :: undef :: undef :: undef :: undef :: v40 :: undef :: []).toArray, defers := Ds.map mark } ∧ k ≤ N ∧ Ds.Nodup ∧ (∀ D ∈ Ds, ob + 1 ≤ D ∧ W.heap[D]? = some (.deferred (some []))) ∧
      Bk W ob 89 (av (Ln.lgF bs d k)) ∧ Bk W w.heap.size 89 (av d) ∧ Bk W (w.heap.size + 1) 89 Try.zeroCells89 ∧ Below w.heap.size w W)
    (fun a' _ => N - (intOf (a'.tmps.getD 14 undef)).toNat) ?start ?round
  case start => exact ⟨0, [], undef, undef, undef, undef, undef, undef, undef, rfl, Nat.zero_le _, List.nodup_nil, (fun D hD => by cases hD), ko2, kd2, kr2, hB2⟩
  case round =>
    clear ko2 kd2 kr2 hB2 hN2 c0 hnl2
    rintro a' W ⟨k, Ds, v6, v15, v16, v17, v18, v19, v40, rfl, hk, hnd, hDs, ko, kd, kr, hB⟩
    have hN' := hN.below hB hBw
    have hos := Ln.lgF_small hok hd hs h0 k hk
    have hstep := Ln.lgF_succ bs d k
    obtain ⟨o, hoe⟩ : ∃ o, Ln.lgF bs d k = o := ⟨_, rfl⟩
    rw [hoe] at ko hos hstep
    obtain ⟨hol, hosm⟩ := hos
    have HOE := Lib.hid hoe
    have HST := Lib.hid hstep
    clear hoe hstep
    have hoW := ko.lt
    have hdW := kd.lt
    have hrW := kr.lt
    have hnW := hN'.blk.lt
    by_cases hlt : k < N
    · have hi0 : (0 : Int) ≤ (k : Int) := Int.natCast_nonneg _
      have hi1 : (k : Int) < 128 := by omega
      gi_wp2_with (refine ⟨trivial, ?_⟩; gi_at_call 91; refine (edges_in _ nb k _).mono ?_; rintro e w' ⟨rfl, rfl⟩)
      have kp := ((Bk.new W 3 #[.int .i64 (k : Int)]).alloc (.cells #[.pointer (some ⟨nb, 0, none⟩)] 64)).alloc (.cells #[.int .i64 (k : Int)] 3)
      have kn := (Bk.new (W.alloc (.cells #[.int .i64 (k : Int)] 3)) 64 #[.pointer (some ⟨nb, 0, none⟩)]).alloc (.cells #[.int .i64 (k : Int)] 3)
      have kq := Bk.new ((W.alloc (.cells #[.int .i64 (k : Int)] 3)).alloc (.cells #[.pointer (some ⟨nb, 0, none⟩)] 64)) 3 #[.int .i64 (k : Int)]
      have hsz : (((W.alloc (.cells #[.int .i64 (k : Int)] 3)).alloc (.cells #[.pointer (some ⟨nb, 0, none⟩)] 64)).alloc (.cells #[.int .i64 (k : Int)] 3)).heap.size = W.heap.size + 3 := by simp
      have hBW : Below W.heap.size W (((W.alloc (.cells #[.int .i64 (k : Int)] 3)).alloc (.cells #[.pointer (some ⟨nb, 0, none⟩)] 64)).alloc (.cells #[.int .i64 (k : Int)] 3)) :=
        (((Below.refl _ W).alloc (Nat.le_refl _) _).alloc (by simp) _).alloc (by simp; omega) _
      have e1 : (W.alloc (.cells #[.int .i64 (k : Int)] 3)).heap.size = W.heap.size + 1 := by simp
      rw [World.size_alloc, e1] at kq
      rw [e1] at kn
      have ko' := ko.below hBW hoW
      have kd' := kd.below hBW hdW
      have kr' := kr.below hBW hrW
      have hN0 := hN'.below hBW (by have := hB.size; omega)
      have hDs' : ∀ D ∈ Ds, ob + 1 ≤ D ∧ D < W.heap.size ∧ (((W.alloc (.cells #[.int .i64 (k : Int)] 3)).alloc (.cells #[.pointer (some ⟨nb, 0, none⟩)] 64)).alloc (.cells #[.int .i64 (k : Int)] 3)).heap[D]? = some (.deferred (some [])) := fun D hD =>
        ⟨(hDs D hD).1, (Array.getElem?_eq_some_iff.1 (hDs D hD).2).1, (hBW.block D (Array.getElem?_eq_some_iff.1 (hDs D hD).2).1).trans (hDs D hD).2⟩
      have hB' := hB.trans (hBW.mono hB.size)
      obtain ⟨W0, hW0⟩ : ∃ W0, ((W.alloc (.cells #[.int .i64 (k : Int)] 3)).alloc (.cells #[.pointer (some ⟨nb, 0, none⟩)] 64)).alloc (.cells #[.int .i64 (k : Int)] 3) = W0 := ⟨_, rfl⟩
      rw [hW0] at kp kn kq hsz ko' kd' kr' hN0 hB' ⊢
      simp only [hW0] at hDs'
      clear hW0 hBW e1
      have hnX : ∀ j, j < B → ¬ (j = ob) := fun j hj e => by omega
      have hlen2 := hok.len
      have hBsz := hB.size
      have hszA : W.heap.size + 3 ≤ W0.heap.size := by omega
      clear hsz
      refine wpIn_rangeFunc_ownH (F := Fence.wide) (n := 3) rfl (by omega) (gf := 96) (lb := #[.pointer (some ⟨W.heap.size + 1, 0, none⟩), .pointer (some ⟨W.heap.size + 1 + 1, 0, none⟩)]) rfl trivial (enters_of Try.func96 (by kernel_rfl) rfl)
        (edges_stops 2 (by omega) (W.heap.size + 1) (W.heap.size + 1 + 1) W0.heap.size B nb N k (fun j => j = ob) bs A c fr (by omega) hnX (by omega) (by omega) (by omega) (by omega) (by omega) hlen2 W0 (Nat.le_refl _) kn kq hN0)
        keepX_t (keepX_b (Nat.le_refl _)) (Below.refl _ _) (fun _ => rfl)
        (fun pre W' => Bk W' ob 89 (av (Ln.lgL bs d k (pre.map Subtype.val) o)) ∧ KeepX W0.heap.size (fun j => j = ob) W0 W')
        (fun _ _ _ => False)
        (OwnFrom.and (own_bk _ _ _ _) (own_keepX (Nat.le_refl _) (Nat.le_refl _)))
        (fun _ _ _ _ _ hs _ _ => hs)
        ⟨ko', KeepX.refl _ _ _⟩
        (fun x a' W' => ∃ Bx, W0.heap.size ≤ Bx ∧ Bk W' Bx 50 #[.int .i64 (Ln.bd bs x.1).f, .int .i64 (Ln.bd bs x.1).t, .int .i64 (Ln.bd bs x.1).m, .int .i64 (Ln.bd bs x.1).r] ∧ a' = { tmps := (Value.pointer (some ⟨nb, 0, none⟩) :: Value.agg (av d) :: undef :: Value.pointer (some ⟨w.heap.size, 0, none⟩) :: Value.pointer (some ⟨w.heap.size + 1, 0, none⟩) :: Value.pointer (some ⟨ob, 0, none⟩) :: Value.pointer (some ⟨W.heap.size, 0, none⟩) :: undef :: Value.pointer (some ⟨Bx, 0, none⟩) :: Value.agg (av Ln.nones) :: Value.pointer (some ⟨nb, 0, none⟩) :: Value.pointer (some ⟨nb, 0, none⟩) :: Value.pointer (some ⟨nb, 0, none⟩) :: Value.int .i64 (N : Int) :: Value.int .i64 (k : Int) :: Value.bool true :: Value.int .i64 (k : Int) :: Value.pointer (some ⟨nb, 0, none⟩) :: Value.int .i64 (k : Int) :: Value.func (.func 96) #[] #[.pointer (some ⟨W.heap.size + 1, 0, none⟩), .pointer (some ⟨W.heap.size + 1 + 1, 0, none⟩)] :: Value.int .i64 (x.1 : Int) :: Value.agg #[.int .i64 (Ln.bd bs x.1).f, .int .i64 (Ln.bd bs x.1).t, .int .i64 (Ln.bd bs x.1).m, .int .i64 (Ln.bd bs x.1).r] :: undef :: undef :: undef :: undef :: undef :: undef :: undef :: undef :: undef :: undef :: undef :: undef :: undef :: undef :: undef :: undef :: undef :: undef :: v40 :: undef :: []).toArray, defers := [] })
        (fun x a' _ X Y row hs hg hr => by obtain ⟨Bx, h1, h2, h3⟩ := hs; exact ⟨Bx, h1, own_bk W0.heap.size Bx 50 (fun (_ : Unit) => _) () X Y row h2 hg hr, h3⟩)
        ?assign ?body ?done ?stop
      case assign =>
        rintro l pre x W' KK ⟨i1, i3⟩ hKK
        dsimp only [ixv]
        gi_wp2_with (fail)
        exact hKK _ _ ((KeepsOthers.alloc _ _).from _) ((KeepX.refl _ _ _).alloc i3.size _) ⟨i1.alloc _, i3.alloc i3.size _⟩ ⟨W'.heap.size, i3.size, Bk.new W' _ _, rfl⟩
      case body =>
        rintro l pre x a' W' hl ⟨r, hr⟩ ⟨i1, i3⟩ ⟨Bx, hBx, bX, rfl⟩ hltp
        obtain ⟨i, hmem⟩ := x
        obtain ⟨hib, hif⟩ := Ln.idx_lt hmem
        have hb := hok.each _ (Ln.bd_mem hib)
        have hinv := Ln.lgL_small hok (p := k) (by omega) hd hs (pre.map Subtype.val) (fun j hj => by
          obtain ⟨z, _, rfl⟩ := List.mem_map.1 hj
          exact (Ln.idx_lt z.2).1) ⟨hol, hosm⟩
        have hsn := Ln.lgL_snoc bs d k (pre.map Subtype.val) i o
        simp only [List.map_append, List.map_cons, List.map_nil]
        obtain ⟨o', ho'⟩ : ∃ o', Ln.lgL bs d k (pre.map Subtype.val) o = o' := ⟨_, rfl⟩
        rw [ho'] at i1 hinv hsn
        obtain ⟨hl', hsm'⟩ := hinv
        have h1 := hsm'.at_ (k := k) (by omega)
        obtain ⟨tn, htn⟩ : ∃ tn : Nat, (Ln.bd bs i).t = tn := ⟨(Ln.bd bs i).t.toNat, by omega⟩
        have ht128 : (tn : Int) < 128 := by omega
        have h2 := hs.at_ (k := tn) (by omega)
        have hrx : Ln.lgS d k o' (Ln.bd bs i) = if Ln.gt d tn = Ln.NONE then o' else o'.set k (min (Ln.gt o' k) ((Ln.bd bs i).m + Ln.gt d tn)) := by
          rw [Ln.lgS, htn]
          simp
        have d1 := (i1.cell k).trans (av_at (by omega))
        have f1 := i1.frozen k
        have p1 := (i3.bk kp (by omega) (by omega)).cell 0
        have p2 := ((i3.bk kd' (by omega) (by omega)).cell tn).trans (av_at (by omega))
        have x1 := bX.cell 1
        have x2 := bX.cell 2
        simp only [List.getElem?_toArray, List.getElem?_cons_zero, List.getElem?_cons_succ] at p1 x1 x2
        rw [htn] at x1
        have hbx := bX.lt
        have hox := i1.lt
        obtain ⟨m, hmm⟩ : ∃ m, (Ln.bd bs i).m = m := ⟨_, rfl⟩
        rw [hmm] at x2 hrx hb
        obtain ⟨a1, ha1⟩ : ∃ a1, Ln.gt o' k = a1 := ⟨_, rfl⟩
        obtain ⟨y, hy⟩ : ∃ y, Ln.gt d tn = y := ⟨_, rfl⟩
        rw [ha1] at d1 h1 hrx
        rw [hy] at p2 h2 hrx
        have hm1 := hb.2.2.1
        have hm2 := hb.2.2.2
        have HR := Lib.hid hrx
        have HN := Lib.hid hsn
        have HI1 := Lib.hid i1
        have HS' := Lib.hid ho'
        have H1 := Lib.hid h1
        have H2 := Lib.hid h2
        clear hrx hsn i1 ho' ha1 hy hmm htn hif h1 h2 hb hsm' hosm
        rcases hyn : (y != 9223372036854775807) with _ | _
        · gi_wp2_with (fail)
          have hye : y = Ln.NONE := by simpa [Ln.NONE] using hyn
          have e2 : Ln.lgL bs d k (List.map Subtype.val pre ++ [i]) o = o' := by rw [HN.out, HR.out, if_pos hye]
          refine ⟨KeepsFrom.refl _ _, KeepX.refl _ _ _, ⟨?_, i3⟩⟩
          show Bk _ _ _ (av (Ln.lgL bs d k (List.map Subtype.val (pre ++ [(⟨i, hmem⟩ : Ix bs k)])) o))
          rw [List.map_append, List.map_cons, List.map_nil, e2]
          exact HI1.out
        · have hye : y ≠ Ln.NONE := by simpa [Ln.NONE] using hyn
          have hyb := H2.out.resolve_left hye
          have hy1 := hyb.1
          have hy2 := hyb.2
          clear hyb
          have HYE := Lib.hid hye
          clear hye
          have hwr : IntKind.i64.wrap (m + y) = m + y := IntWalk.i64_in _ (by omega)
          rcases Int.lt_or_le (m + y) a1 with hlt2 | hlt2
          all_goals
            gi_wp2_with (fail)
            refine wpIn_region_tail_round 13 (by kernel_rfl) (by kernel_rfl) (by kernel_rfl) (fun ⟨_, _, h⟩ => h) ?_
            simp only [List.take_succ_cons, List.take_zero, List.drop_succ_cons, List.drop_zero]
            repeat still_step
            try refine wpStill_nil ?_
            go_wp2_with fail
            have hmin : ∃ v, v = min a1 (m + y) := ⟨_, rfl⟩
            obtain ⟨v, hv⟩ := hmin
            have k2 := HI1.out.set k (.int .i64 v)
            rw [av_set] at k2
            have kx2 := (KeepX.refl W0.heap.size (fun j => j = ob) W').setCell (p := ⟨ob, k, none⟩) (fun _ => rfl) (.int .i64 v)
            have ko2 := (KeepsOthers.setCell W' ⟨ob, k, none⟩ (.int .i64 v)).from W0.heap.size
            have e2 : Ln.lgL bs d k (List.map Subtype.val pre ++ [i]) o = o'.set k v := by rw [HN.out, HR.out, if_neg HYE.out, hv]
            rw [← List.map_singleton (f := Subtype.val) (a := (⟨i, hmem⟩ : Ix bs k)), ← List.map_append] at e2
            rw [Int.min_def] at hv
            first | rw [if_neg (by omega)] at hv | rw [if_pos (by omega)] at hv
            subst hv
            refine ⟨⟨ko2.size, ko2.same⟩, kx2.drew, ⟨?_, i3.trans kx2.drew⟩⟩
            show Bk _ _ _ (av (Ln.lgL bs d k (List.map Subtype.val (pre ++ [(⟨i, hmem⟩ : Ix bs k)])) o))
            rw [e2]
            exact k2
      case done =>
        rintro D ys W' hD rfl ⟨i1, i3⟩ hKD
        gi_wp2_with (fail)
        have hmap : List.map Subtype.val (Ln.idx bs k).attach = Ln.idx bs k := by simp
        rw [hmap, ← HST.out] at i1
        have hDn : D ∉ Ds := fun hmem => by have := (hDs' D hmem).2.1; omega
        refine ⟨⟨k + 1, D :: Ds, _, _, _, _, _, _, _, rfl, by omega, List.nodup_cons.2 ⟨hDn, hnd⟩, fun E hE => ?_, i1, i3.bk kd' (by omega) (by omega), i3.bk kr' (by omega) (by omega), hB'.trans (i3.below (by omega) (fun j hj e => by omega))⟩, ?_⟩
        · rcases List.mem_cons.1 hE with rfl | hE
          · exact ⟨by omega, hKD⟩
          · obtain ⟨q1, q2, q3⟩ := hDs' E hE
            exact ⟨q1, (i3.block E (by omega) (fun e => by omega)).trans q3⟩
        · simp [intOf]
          omega
      case stop =>
        rintro D cc pre W' _ _ h _
        exact h.elim
    · obtain rfl : k = N := by omega
      gi_wp2_with (first
        | (refine wpListIn_load_row rfl 89 (.tmp 5) rfl ob rfl 89 _ (0, 0) _ ko Try.underlying89 rfl (av_len94 hol) ?_)
        | (refine wpListIn_store_row rfl 89 (.tmp 4) (.tmp 41) rfl (w.heap.size + 1) _ rfl rfl 89 _ kr (av_len94 hol) (by rw [zero94]; exact av_same Ln.zeros_length hol) (av_one _) ?_))
      have k2 := kr.row (av o)
      have hB3 := kr.below_set (by omega) (av o) hB
      have hsz3 := size_setRow W (w.heap.size + 1) (av o)
      refine leaves_marks Ds _ hnd (fun D hD => ?_) (fun w' hw => ?_)
      · have q := hDs D hD
        simp only [World.setRow, Array.getElem?_modify]
        rw [if_neg (by omega)]
        exact q.2
      · have hnn : w.heap.size + 1 ∉ Ds := fun hmem => by have := (hDs _ hmem).1; omega
        have k3 := hw.bk k2 (by rw [hsz3]; exact hrW) hnn
        refine ⟨_, results_cell_row rfl _ _ (w.heap.size + 1) 89 _ (0, 0) _ rfl k3 Try.underlying89 rfl (av_len94 hol), ?_⟩
        rw [HOE.out]
        exact ⟨rfl, hB3.trans (hw.below (by rw [hsz3]; exact hB.size) (fun j hj hmem => by have := (hDs j hmem).1; omega))⟩

end Go.Proofs.Yteiaofgkmgllcaa
