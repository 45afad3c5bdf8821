/-
  settle, consistent, distances.
-/
import Derived.Test.YtppfpdhgckghdaaRound
import Derived.Test.YtppfpdhgckghdaaReach
set_option linter.unusedVariables false
set_option linter.unusedSimpArgs false
namespace Go.Proofs.Ytppfpdhgckghdaa
open Go.RowKit

theorem results_cell_row_tmp {P : Program} {fn : Func} {p q : Tmp} {ty : TypeId} (h : fn.results = #[.cell p ty, .tmp q]) (tmps : Array Value) (w : World) (g : Nat) (t : TypeId) (cs : Array Value) (fr : Nat × Nat) (d : TypeDesc) (v : Value)
    (hp : tmps.getD p undef = .pointer (some ⟨g, 0, none⟩)) (hq : tmps.getD q undef = v) (hg : w.heap[g]? = some (.cells cs t fr))
    (hu : P.underlying ty = some d) (hd : (match d with | .struct _ | .array _ _ => true | _ => false) = true) (hi : (P.info? ty).map (·.size) = some cs.size) :
    (results fn tmps).run P w = .ok (.tuple #[.agg cs, v]) w := by
  have hp' : tmps[p]?.getD undef = .pointer (some ⟨g, 0, none⟩) := by simpa using hp
  have hq' : tmps[q]?.getD undef = v := by simpa using hq
  simp [results, h, hp', hq', asAddr, run_loadVar_row w g t ty cs fr d hg hu hd hi]

theorem av_len94 {d : List Int} (hd : d.length = 128) : (Try.prog.info? 87).map (·.size) = some (av d).size := by rw [av_size, hd]; exact size94
theorem av_same {d d' : List Int} (hd : d.length = 128) (hd' : d'.length = 128) : (av d).size = (av d').size := by rw [av_size, av_size, hd, hd']

/-- What the rounds that are left come to is what all come to. -/
def SetRel (bs : List Ln.Bd) (N : Nat) (d : List Int) (k : Nat) (dk : List Int) : Prop := Ln.settleF bs N N d = Ln.settleF bs N (N - k) dk
theorem SetRel.go {bs : List Ln.Bd} {N : Nat} {d dk : List Int} {k : Nat} (h : SetRel bs N d k dk) (hk : k < N) (hr : (Ln.roundF bs N (dk, false)).2 = true) : SetRel bs N d (k + 1) (Ln.roundF bs N (dk, false)).1 := by
  unfold SetRel at h ⊢
  rw [h, show N - k = (N - (k + 1)) + 1 from by omega, Ln.settleF, if_pos hr]
theorem SetRel.rest {bs : List Ln.Bd} {N : Nat} {d dk : List Int} {k : Nat} (h : SetRel bs N d k dk) (hk : k < N) (hr : (Ln.roundF bs N (dk, false)).2 = false) : Ln.settleF bs N N d = ((Ln.roundF bs N (dk, false)).1, true) := by
  unfold SetRel at h
  rw [h, show N - k = (N - (k + 1)) + 1 from by omega, Ln.settleF, if_neg (by rw [hr]; simp)]
theorem SetRel.out {bs : List Ln.Bd} {N : Nat} {d dk : List Int} (h : SetRel bs N d N dk) : Ln.settleF bs N N d = (dk, false) := by
  unfold SetRel at h
  rw [h, Nat.sub_self, Ln.settleF]

set_option maxRecDepth 100000 in
set_option maxHeartbeats 2000000 in
theorem settle_any {N : Nat} {bs : List Ln.Bd} (hok : Ln.Ok N bs) (B nb : Nat) (A : Option Addr) (c : Nat) (fr : List Value) (d : List Int) (K : Int) (w : World) (hN : IsNet w B nb N bs A c fr) (hBw : B ≤ w.heap.size)
    (hd : d.length = 128) (hs : Ln.Sm K d) (h0 : 0 ≤ K) (hK : K ≤ 1000000000000000) :
    Calls Try.prog 93 #[.pointer (some ⟨nb, 0, none⟩), .agg (av d)] w fun e w' =>
      e = .returned (.tuple #[.agg (av (Ln.settleF bs N N d).1), .bool (Ln.settleF bs N N d).2]) ∧ Below w.heap.size w w' := by
  have c0 := (hN.blk.cell 0).trans (ncells_0 _ _ _)
  have hnl := hN.blk.lt
  have hnB := hN.lt
  have htop := hok.top
  go_enter Try.func93, Try.ntmps93
  go_wp2_with fail
  rw [zero94]
  have hB0 : Below w.heap.size w ((w.alloc (.cells (av d) 87)).alloc (.cells (av Ln.zeros) 87)) := ((Below.refl _ _).alloc (Nat.le_refl _) _).alloc (by simp) _
  have k0 := (Bk.new w 87 (av d)).alloc (.cells (av Ln.zeros) 87)
  have k1 := Bk.new (w.alloc (.cells (av d) 87)) 87 (av Ln.zeros)
  rw [World.size_alloc] at k1
  go_loopw [10] (fun i wr => ∃ (k : Nat) (dk : List Int), k ≤ N ∧ i = .int .i64 k ∧ SetRel bs N d k dk ∧ dk.length = 128 ∧ Ln.Sm (K + 256256000000 * k) dk ∧ Below w.heap.size w wr ∧ Bk wr w.heap.size 87 (av dk) ∧ Bk wr (w.heap.size + 1) 87 (av Ln.zeros))
    (fun i _ => N - (intOf i).toNat)
  case atStart => exact ⟨0, d, by omega, rfl, rfl, hd, by simpa using hs, hB0, k0, k1⟩
  case round =>
    obtain ⟨k, dk, hk, rfl, hrel, hdl, hsm, hB, k0, k1⟩ := hrel
    have hsz := k1.lt
    by_cases hlt : k < N
    · have hN' := hN.below hB hBw
      have hsmall := Ln.roundF_small hok (s := (dk, false)) N (Nat.le_refl _) ⟨hdl, hsm⟩ (by omega) (by omega)
      have HD := Lib.hid hdl
      rcases hr : (Ln.roundF bs N (dk, false)).2 with _ | _
      · have hres := hrel.rest hlt hr
        have HRES := Lib.hid hres
        have hl2 := hsmall.1
        have HL2 := Lib.hid hl2
        clear hres hl2 hdl
        go_wp2_with (first
          | (go_at_call 114; refine (round_any hok B nb w.heap.size A c fr dk _ _ hN' hBw k0 HD.out hsm (by omega) (by omega)).mono ?_; rintro e w1 ⟨rfl, kk, hX⟩; have HR := Lib.hid hr; rw [hr]; clear hr; have k1' := hX.bk k1 hsz (by omega))
          | (refine wpList_load_row rfl 87 (.tmp 3) rfl w.heap.size rfl 87 _ (0, 0) _ kk Try.underlying87 rfl (av_len94 HL2.out) ?_)
          | (refine wpList_store_row rfl 87 (.tmp 4) (.tmp 15) rfl (w.heap.size + 1) _ rfl rfl 87 _ k1' (av_len94 HL2.out) (av_same Ln.zeros_length HL2.out) (av_one _) ?_))
        have k2 := k1'.row (av (Ln.roundF bs N (dk, false)).1)
        rw [HRES.out]
        exact bodyPost_ret (v := .tuple #[.agg (av (Ln.roundF bs N (dk, false)).1), .bool true]) (results_cell_row_tmp rfl _ _ (w.heap.size + 1) 87 _ (0, 0) _ _ rfl rfl k2 Try.underlying87 rfl (av_len94 HL2.out)) rfl
          ⟨rfl, k1'.below_set (by omega) _ (hB.trans (hX.below hB.size (fun j hj e => by omega)))⟩
      · have hres := hrel.go hlt hr
        have HRES := Lib.hid hres
        clear hres hdl
        go_wp2_with (first
          | (go_at_call 114; refine (round_any hok B nb w.heap.size A c fr dk _ _ hN' hBw k0 HD.out hsm (by omega) (by omega)).mono ?_; rintro e w1 ⟨rfl, kk, hX⟩; have HR := Lib.hid hr; rw [hr]; clear hr; have k1' := hX.bk k1 hsz (by omega)))
        go_roundw
        case rel => exact ⟨k + 1, _, by omega, by go_num, HRES.out, hsmall.1, hsmall.2.mono (by omega), hB.trans (hX.below hB.size (fun j hj e => by omega)), kk, k1'⟩
        case measure => simp [intOf]; omega
    · obtain rfl : k = N := by omega
      have hres := hrel.out
      have HRES := Lib.hid hres
      clear hres
      go_wp2_with (first
        | (refine wpList_load_row rfl 87 (.tmp 3) rfl w.heap.size rfl 87 _ (0, 0) _ k0 Try.underlying87 rfl (av_len94 hdl) ?_)
        | (refine wpList_store_row rfl 87 (.tmp 4) (.tmp 17) rfl (w.heap.size + 1) _ rfl rfl 87 _ k1 (av_len94 hdl) (av_same Ln.zeros_length hdl) (av_one _) ?_))
      have k2 := k1.row (av dk)
      rw [HRES.out]
      exact bodyPost_ret (v := .tuple #[.agg (av dk), .bool false]) (results_cell_row_tmp rfl _ _ (w.heap.size + 1) 87 _ (0, 0) _ _ rfl rfl k2 Try.underlying87 rfl (av_len94 hdl)) rfl
        ⟨rfl, k1.below_set (by omega) _ hB⟩

end Go.Proofs.Ytppfpdhgckghdaa
