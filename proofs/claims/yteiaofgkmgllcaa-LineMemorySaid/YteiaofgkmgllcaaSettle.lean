/-
  settle; a region inside a round whose operations read, but for the last ones.
-/
import Derived.Test.YteiaofgkmgllcaaRound
import Derived.Test.YteiaofgkmgllcaaReach
import Derived.StillTail
set_option linter.unusedVariables false
set_option linter.unusedSimpArgs false
namespace Go.Proofs.Yteiaofgkmgllcaa
open Go.RowKit

theorem results_cell_row_tmp {P : Program} {fn : Func} {p q : Tmp} {ty : TypeId} (h : fn.results = #[.cell p ty, .tmp q]) (tmps : Array Value) (w : World) (g : Nat) (t : TypeId) (cs : Array Value) (fr : Nat × Nat) (d : TypeDesc) (v : Value)
    (hp : tmps.getD p undef = .pointer (some ⟨g, 0, none⟩)) (hq : tmps.getD q undef = v) (hg : w.heap[g]? = some (.cells cs t fr))
    (hu : P.underlying ty = some d) (hd : (match d with | .struct _ | .array _ _ => true | _ => false) = true) (hi : (P.info? ty).map (·.size) = some cs.size) :
    (results fn tmps).run P w = .ok (.tuple #[.agg cs, v]) w := by
  have hp' : tmps[p]?.getD undef = .pointer (some ⟨g, 0, none⟩) := by simpa using hp
  have hq' : tmps[q]?.getD undef = v := by simpa using hq
  simp [results, h, hp', hq', asAddr, run_loadVar_row w g t ty cs fr d hg hu hd hi]

theorem av_len94 {d : List Int} (hd : d.length = 128) : (Try.prog.info? 89).map (·.size) = some (av d).size := by rw [av_size, hd]; exact size94
theorem av_same {d d' : List Int} (hd : d.length = 128) (hd' : d'.length = 128) : (av d).size = (av d').size := by rw [av_size, av_size, hd, hd']

/-- What the rounds that are left come to is what all come to. -/
def SetRel (bs : List Ln.Bd) (N : Nat) (d : List Int) (k : Nat) (dk : List Int) : Prop := Ln.settleF bs N N d = Ln.settleF bs N (N - k) dk
theorem SetRel.go {bs : List Ln.Bd} {N : Nat} {d dk : List Int} {k : Nat} (h : SetRel bs N d k dk) (hk : k < N) (hr : (Ln.roundF bs N (dk, false)).2 = true) : SetRel bs N d (k + 1) (Ln.roundF bs N (dk, false)).1 := by
  unfold SetRel at h ⊢
  rw [h, show N - k = (N - (k + 1)) + 1 from by omega, Ln.settleF, if_pos hr]
theorem SetRel.rest {bs : List Ln.Bd} {N : Nat} {d dk : List Int} {k : Nat} (h : SetRel bs N d k dk) (hk : k < N) (hr : (Ln.roundF bs N (dk, false)).2 = false) : Ln.settleF bs N N d = ((Ln.roundF bs N (dk, false)).1, true) := by
  unfold SetRel at h
  rw [h, show N - k = (N - (k + 1)) + 1 from by omega, Ln.settleF, if_neg (by rw [hr]; simp)]
theorem SetRel.out {bs : List Ln.Bd} {N : Nat} {d dk : List Int} (h : SetRel bs N d N dk) : Ln.settleF bs N N d = (dk, false) := by
  unfold SetRel at h
  rw [h, Nat.sub_self, Ln.settleF]

set_option maxRecDepth 100000 in
set_option maxHeartbeats 2000000 in
theorem settle_any {N : Nat} {bs : List Ln.Bd} (hok : Ln.Ok N bs) (B nb : Nat) (A : Option Addr) (c : Nat) (fr : List Value) (d : List Int) (K : Int) (w : World) (hN : IsNet w B nb N bs A c fr) (hBw : B ≤ w.heap.size)
    (hd : d.length = 128) (hs : Ln.Sm K d) (h0 : 0 ≤ K) (hK : K ≤ 1000000000000000) :
    Calls Try.prog 66 #[.pointer (some ⟨nb, 0, none⟩), .agg (av d)] w fun e w' =>
      e = .returned (.tuple #[.agg (av (Ln.settleF bs N N d).1), .bool (Ln.settleF bs N N d).2]) ∧ Below w.heap.size w w' := by
  have c0 := (hN.blk.cell 0).trans (ncells_0 _ _ _)
  have hnl := hN.blk.lt
  have hnB := hN.lt
  have htop := hok.top
  go_enter Try.func66, Try.ntmps66
  go_wp2_with fail
  rw [zero94]
  have hB0 : Below w.heap.size w ((w.alloc (.cells (av d) 89)).alloc (.cells (av Ln.zeros) 89)) := ((Below.refl _ _).alloc (Nat.le_refl _) _).alloc (by simp) _
  have k0 := (Bk.new w 89 (av d)).alloc (.cells (av Ln.zeros) 89)
  have k1 := Bk.new (w.alloc (.cells (av d) 89)) 89 (av Ln.zeros)
  rw [World.size_alloc] at k1
  go_loopw [10] (fun i wr => ∃ (k : Nat) (dk : List Int), k ≤ N ∧ i = .int .i64 k ∧ SetRel bs N d k dk ∧ dk.length = 128 ∧ Ln.Sm (K + 256256000000 * k) dk ∧ Below w.heap.size w wr ∧ Bk wr w.heap.size 89 (av dk) ∧ Bk wr (w.heap.size + 1) 89 (av Ln.zeros))
    (fun i _ => N - (intOf i).toNat)
  case atStart => exact ⟨0, d, by omega, rfl, rfl, hd, by simpa using hs, hB0, k0, k1⟩
  case round =>
    obtain ⟨k, dk, hk, rfl, hrel, hdl, hsm, hB, k0, k1⟩ := hrel
    have hsz := k1.lt
    by_cases hlt : k < N
    · have hN' := hN.below hB hBw
      have hsmall := Ln.roundF_small hok (s := (dk, false)) N (Nat.le_refl _) ⟨hdl, hsm⟩ (by omega) (by omega)
      have HD := Lib.hid hdl
      rcases hr : (Ln.roundF bs N (dk, false)).2 with _ | _
      · have hres := hrel.rest hlt hr
        have HRES := Lib.hid hres
        have hl2 := hsmall.1
        have HL2 := Lib.hid hl2
        clear hres hl2 hdl
        go_wp2_with (first
          | (go_at_call 88; refine (round_any hok B nb w.heap.size A c fr dk _ _ hN' hBw k0 HD.out hsm (by omega) (by omega)).mono ?_; rintro e w1 ⟨rfl, kk, hX⟩; have HR := Lib.hid hr; rw [hr]; clear hr; have k1' := hX.bk k1 hsz (by omega))
          | (refine wpList_load_row rfl 89 (.tmp 3) rfl w.heap.size rfl 89 _ (0, 0) _ kk Try.underlying89 rfl (av_len94 HL2.out) ?_)
          | (refine wpList_store_row rfl 89 (.tmp 4) (.tmp 15) rfl (w.heap.size + 1) _ rfl rfl 89 _ k1' (av_len94 HL2.out) (av_same Ln.zeros_length HL2.out) (av_one _) ?_))
        have k2 := k1'.row (av (Ln.roundF bs N (dk, false)).1)
        rw [HRES.out]
        exact bodyPost_ret (v := .tuple #[.agg (av (Ln.roundF bs N (dk, false)).1), .bool true]) (results_cell_row_tmp rfl _ _ (w.heap.size + 1) 89 _ (0, 0) _ _ rfl rfl k2 Try.underlying89 rfl (av_len94 HL2.out)) rfl
          ⟨rfl, k1'.below_set (by omega) _ (hB.trans (hX.below hB.size (fun j hj e => by omega)))⟩
      · have hres := hrel.go hlt hr
        have HRES := Lib.hid hres
        clear hres hdl
        go_wp2_with (first
          | (go_at_call 88; refine (round_any hok B nb w.heap.size A c fr dk _ _ hN' hBw k0 HD.out hsm (by omega) (by omega)).mono ?_; rintro e w1 ⟨rfl, kk, hX⟩; have HR := Lib.hid hr; rw [hr]; clear hr; have k1' := hX.bk k1 hsz (by omega)))
        go_roundw
        case rel => exact ⟨k + 1, _, by omega, by go_num, HRES.out, hsmall.1, hsmall.2.mono (by omega), hB.trans (hX.below hB.size (fun j hj e => by omega)), kk, k1'⟩
        case measure => simp [intOf]; omega
    · obtain rfl : k = N := by omega
      have hres := hrel.out
      have HRES := Lib.hid hres
      clear hres
      go_wp2_with (first
        | (refine wpList_load_row rfl 89 (.tmp 3) rfl w.heap.size rfl 89 _ (0, 0) _ k0 Try.underlying89 rfl (av_len94 hdl) ?_)
        | (refine wpList_store_row rfl 89 (.tmp 4) (.tmp 17) rfl (w.heap.size + 1) _ rfl rfl 89 _ k1 (av_len94 hdl) (av_same Ln.zeros_length hdl) (av_one _) ?_))
      have k2 := k1.row (av dk)
      rw [HRES.out]
      exact bodyPost_ret (v := .tuple #[.agg (av dk), .bool false]) (results_cell_row_tmp rfl _ _ (w.heap.size + 1) 89 _ (0, 0) _ _ rfl rfl k2 Try.underlying89 rfl (av_len94 hdl)) rfl
        ⟨rfl, k1.below_set (by omega) _ hB⟩

end Go.Proofs.Yteiaofgkmgllcaa

namespace Go.Proofs.Yteiaofgkmgllcaa
open Go.RowKit

theorem upon_wide {P : Program} {o : Oper} {a : Act} {next : Act → World → Prop} {Q : Exit → Act → World → Prop} {r : Result Next} {n l : Nat} (h : o.upon P a next Q r) : o.uponIn (Fence.wide.inRound l) n P a next Q r := by
  have hd : (Fence.wide.inRound l).depth.isSome = true → 1 ≤ n := fun h => by cases h
  cases r with
  | ok x w =>
    cases x with
    | value v => exact h
    | skip => exact h
    | defer d => exact h
    | enter f args => exact ⟨hd, callsIn_wide.2 h⟩
    | row row args => exact ⟨hd, fun c cs _ => let ⟨v, w', hr, s⟩ := h c cs; ⟨v, w', hr, stepsIn_wide.2 s⟩⟩
    | _ => exact absurd h (by simp [Oper.upon])
  | halt x w =>
    cases x with
    | panic v => exact h
    | _ => exact absurd h (by simp [Oper.upon])

theorem wpOpIn_of_plain {P : Program} {ops : Array Oper} {Q : Exit → Act → World → Prop} {i n l : Nat} {K K' : Act → World → Prop} {a : Act} {w : World} (hd : ∀ o ∈ ops, ∀ c, o.op ≠ .defer c) (hQ : ¬ LetsOut Q)
    (hK : ∀ a w, K a w → K' a w) (h : wpOp P ops Q i K a w) : wpOpIn (Fence.wide.inRound l) n P ops Q i K' a w := by
  unfold wpOp at h
  unfold wpOpIn
  cases ho : ops[i]? with
  | none =>
    simp only [ho] at h ⊢
    exact hK _ _ h
  | some o =>
    simp only [ho] at h ⊢
    split
    · rename_i hw
      simp only [hw, if_true] at h
      rcases h with h | h
      · have h := Oper.wp_mono hK h
        unfold Oper.wp at h
        unfold Oper.wpIn
        refine ⟨fun _ _ => trivial, ?_⟩
        rw [Oper.semAt_eq _ _ _ (hd o (Array.mem_of_getElem? ho))]
        exact upon_wide h
      · exact absurd h.2 hQ
    · rename_i hw
      simp only [hw] at h
      exact ⟨fun _ _ => trivial, hK _ _ h⟩

theorem wpAnyIn_of_plain {P : Program} {md : Region.Mode} {ops : Array Oper} {Q : Exit → Act → World → Prop} {n l : Nat} (hd : ∀ o ∈ ops, ∀ c, o.op ≠ .defer c) (hQ : ¬ LetsOut Q) :
    ∀ (fuel : Nat) (listed : Array Bool) (a : Act) (w : World), wpAny P md ops Q fuel listed a w → wpAnyIn (Fence.wide.inRound l) n P md ops Q fuel listed a w
  | 0, _, _, _, h => h
  | fuel + 1, _, _, _, h => ⟨h.1, fun i hi => wpOpIn_of_plain hd hQ (fun a w h => wpAnyIn_of_plain hd hQ fuel _ a w h) (h.2 i hi)⟩

theorem wpIn_region_tail_round {P : Program} {id lr m : Nat} {Q : Exit → Act → World → Prop} {a : Act} {w : World} {l : List Oper} (n : Nat) (hm : P.follows .mixedOrders = true) (hd : noDefer l = true) (hB : Region.lexTailB .any l.toArray n = true) (hQ : ¬ LetsOut Q)
    (h : wpStill P l.toArray { w with drawn := w.drawn + 1 } (fun a' => wpList P l.toArray Q (l.drop n) a' { w with drawn := w.drawn + 1 }) (l.take n) a) : (Code.region id l.toArray true).wpIn (Fence.wide.inRound lr) m P Q a w := by
  simp only [Region.lexTailB, Bool.and_eq_true, decide_eq_true_eq] at hB
  obtain ⟨⟨⟨⟨hsel, hn⟩, hs⟩, hc⟩, hlex⟩ := hB
  have hn' : n < l.length := by simpa using hn
  have htl : (l.take n).length = n := by simp; omega
  have hdl : (l.drop n).length = l.toArray.size - n := by simp
  have inv0 : HeadInv .any l.toArray n (Array.replicate l.toArray.size false) :=
    ⟨by simp, fun j oj _ hl => (by rw [getD_replicate_false] at hl; cases hl), fun t _ ht => getD_in (by simpa using ht) (getD_replicate_false _ _)⟩
  have H := wpAnyL_lex (md := .any) (g := l.toArray.size - n) hsel hs hc hn (l.take n) 0 _ a (fun j hj => by
    have hj' : j < n := by rw [htl] at hj; exact hj
    simp [hj']) (by simpa using htl) inv0 (by rw [htl]; exact hlex) h
  have h2 := wpAny_of_head (Q' := Q) (g := l.toArray.size - n) (fun listed a' hL => by
    have h3 := wpAny_of_seq (md := .any) (Q' := Q) (l.drop n) n listed a' { w with drawn := w.drawn + 1 } (fun j => by simp [List.getElem?_drop]) (by rw [hdl]; exact hL.1) hL.2
    rwa [hdl] at h3) _ _ _ H
  rw [htl, show n + (l.toArray.size - n) = l.toArray.size by omega] at h2
  exact wpIn_region_any hm (wpAnyIn_of_plain (noDefer_spec hd) hQ _ _ _ _ h2)

end Go.Proofs.Yteiaofgkmgllcaa

