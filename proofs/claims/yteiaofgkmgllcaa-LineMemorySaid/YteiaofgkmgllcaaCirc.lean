/-
  firstCircle, Circle.
-/
import Derived.Test.YteiaofgkmgllcaaFirst
import Derived.Test.YteiaofgkmgllcaaCmp
import Derived.Test.YteiaofgkmgllcaaMath
set_option linter.unusedVariables false
set_option linter.unusedSimpArgs false
namespace Go.Proofs.Yteiaofgkmgllcaa
open Go.RowKit Go.Shelf

theorem nlist_ints (l : List Nat) : nlist l = ints (Ln.zl l) := by simp [nlist, ints, Ln.zl]

theorem compareN_any (A1 : Option Addr) (c1 : Nat) (a : List Nat) (A2 : Option Addr) (c2 : Nat) (b : List Nat) (w : World) (hA : Rd w w.heap.size 1 A1 a.length (nlist a)) (hB : Rd w w.heap.size 1 A2 b.length (nlist b)) (hla : a.length ≤ 1000000) (hlb : b.length ≤ 1000000) :
    Calls Try.prog 68 #[.slice A1 a.length c1, .slice A2 b.length c2] w fun e w' => e = .returned (.int .i64 (Ln.clF (Ln.zl a) (Ln.zl b))) ∧ w = w' := by
  have h := compareLists_any A1 c1 (Ln.zl a) A2 c2 (Ln.zl b) w (by rw [Ln.zl_length, ← nlist_ints]; exact hA) (by rw [Ln.zl_length, ← nlist_ints]; exact hB) (by rw [Ln.zl_length]; exact hla) (by rw [Ln.zl_length]; exact hlb)
  rw [Ln.zl_length, Ln.zl_length] at h
  exact h

set_option maxRecDepth 100000 in
set_option maxHeartbeats 2000000 in
theorem firstCircle_any {N : Nat} {bs : List Ln.Bd} (hok : Ln.Ok N bs) (B nb : Nat) (A : Option Addr) (c : Nat) (fr : List Value) (w : World) (hN : IsNet w B nb N bs A c fr) (hBw : B ≤ w.heap.size) :
    Calls Try.prog 38 #[.pointer (some ⟨nb, 0, none⟩)] w fun e w' =>
      ∃ A' c', e = .returned (.slice A' (Ln.circF bs N).length c') ∧ Rd w' w'.heap.size 1 A' (Ln.circF bs N).length (nlist (Ln.circF bs N)) ∧ Below w.heap.size w w' := by
  have hnB := hN.lt
  have htop := hok.top
  have hnl := hN.blk.lt
  have c0 := (hN.blk.cell 0).trans (ncells_0 _ _ _)
  go_enter Try.func38, Try.ntmps38
  go_wp2_with fail
  go_loopw [3, 4, 16] (fun V L i wr => ∃ k : Nat, k ≤ N ∧ i = .int .i64 k ∧ L = .int .i64 ((Ln.circK bs N k).2 : Nat) ∧ (∃ A1 c1, V = .slice A1 (Ln.circK bs N k).1.length c1 ∧ Rd wr wr.heap.size 1 A1 (Ln.circK bs N k).1.length (nlist (Ln.circK bs N k).1) ∧ (A1 = none ↔ (Ln.circK bs N k).1 = [])) ∧ Below w.heap.size w wr)
    (fun _ _ i _ => N - (intOf i).toNat)
  case atStart => exact ⟨0, Nat.zero_le _, rfl, rfl, ⟨none, 0, rfl, Rd.nil _ _ _ _, ⟨fun _ => rfl, fun _ => rfl⟩⟩, Below.refl _ _⟩
  case round =>
    obtain ⟨k, hk, rfl, rfl, ⟨A1, c1, rfl, hrd1, hnil1⟩, hB⟩ := hrel
    have hstep := Ln.circK_succ bs N k
    have hct := Ln.circK_top (bs := bs) (N := N) k
    obtain ⟨s, hs⟩ : ∃ s, Ln.circK bs N k = s := ⟨_, rfl⟩
    simp only [hs] at hrd1 hnil1 hstep hct
    rw [hs]
    have HSS := Lib.hid hs
    clear hs
    have hBs := hB.size
    by_cases hlt : k < N
    · have hk0 : (0 : Int) ≤ (k : Int) := Int.natCast_nonneg _
      have hk1 : (k : Int) < N := by omega
      have hfp := firstPath_any hok B nb A c fr k k (-1) s.2 wr hlt hlt (by omega) (by omega) (by omega) (hN.below hB hBw) (by omega)
      have hlen := Ln.fpF_len bs N k k (-1) s.2
      rw [Ln.circS] at hstep
      obtain ⟨r, hr⟩ : ∃ r, Ln.fpF bs N k k (-1) s.2 = r := ⟨_, rfl⟩
      rw [hr] at hfp hstep hlen
      have HFP := Lib.hid hfp
      have HST := Lib.hid hstep
      have HRD := Lib.hid hrd1
      have HNL := Lib.hid hnil1
      have HCT := Lib.hid hct
      clear hfp hstep hr hrd1 hnil1 hct
      rcases his : r.2 with _ | _
      · go_wp2_with (go_at_call 57; refine HFP.out.mono ?_; rw [his]; rintro e w2 ⟨A', c', rfl, hrd, hb2, hnil⟩)
        go_roundw
        case rel =>
          have hst := HST.out
          rw [his, if_neg (by simp)] at hst
          refine ⟨k + 1, by omega, by go_num, by rw [hst], ⟨A1, c1, by rw [hst], ?_, ?_⟩, hB.trans (hb2.mono hBs)⟩
          · rw [hst]
            exact (HRD.out.below hb2 (Nat.le_refl _)).more hb2.size
          · rw [hst]
            exact HNL.out
        case measure => simp [intOf]; omega
      · rcases A1 with _ | a1
        · have hs0 : s.1 = [] := HNL.out.1 rfl
          have hq := fun (w : World) => Go.Lib.run_eql_slice_nil (P := Try.prog) w 25 3 none s.1.length c1 0 0 Try.underlying25
          have HS0 := Lib.hid hs0
          clear hs0
          go_wp2_with (go_at_call 57; refine HFP.out.mono ?_; rw [his]; rintro e w2 ⟨A', c', rfl, hrd, hb2, hnil⟩)
          go_roundw
          case rel =>
            have hst := HST.out
            rw [his, if_pos ⟨rfl, .inl HS0.out⟩] at hst
            exact ⟨k + 1, by omega, by go_num, by rw [hst], ⟨A', c', by rw [hst], by rw [hst]; exact hrd, by rw [hst]; exact hnil⟩, hB.trans (hb2.mono hBs)⟩
          case measure => simp [intOf]; omega
        · have hq := fun (w : World) => Go.Lib.run_eql_slice_nil (P := Try.prog) w 25 3 (some a1) s.1.length c1 0 0 Try.underlying25
          have hs0 : s.1 ≠ [] := fun e => by cases HNL.out.2 e
          have HS0 := Lib.hid hs0
          clear hs0
          have hlr : r.1.length ≤ 1000000 := by have := HCT.out.1; omega
          have hls : s.1.length ≤ 1000000 := by have := HCT.out.2.1; omega
          rcases Int.lt_or_le (Ln.clF (Ln.zl r.1) (Ln.zl s.1)) 0 with hcl | hcl
          all_goals
            obtain ⟨v, hv⟩ : ∃ v, Ln.clF (Ln.zl r.1) (Ln.zl s.1) = v := ⟨_, rfl⟩
            rw [hv] at hcl
            have HV := Lib.hid hv
            clear hv
            go_wp2_with (first
              | (go_at_call 57; refine HFP.out.mono ?_; rw [his]; rintro e w2 ⟨A', c', rfl, hrd, hb2, hnil⟩)
              | (go_at_call 68; refine (compareN_any A' c' r.1 (some a1) c1 s.1 _ hrd ((HRD.out.below hb2 (Nat.le_refl _)).more hb2.size) hlr hls).mono ?_; rw [HV.out]; rintro e w3 ⟨rfl, rfl⟩))
            go_roundw
          case rel =>
            have hst := HST.out
            rw [his, HV.out, if_pos ⟨rfl, .inr hcl⟩] at hst
            exact ⟨k + 1, by omega, by go_num, by rw [hst], ⟨A', c', by rw [hst], by rw [hst]; exact hrd, by rw [hst]; exact hnil⟩, hB.trans (hb2.mono hBs)⟩
          case measure => simp [intOf]; omega
          case rel =>
            have hst := HST.out
            rw [his, HV.out, if_neg (fun h => by rcases h.2 with h | h; · exact HS0.out h
                                                 · omega)] at hst
            exact ⟨k + 1, by omega, by go_num, by rw [hst], ⟨some a1, c1, by rw [hst], by rw [hst]; exact (HRD.out.below hb2 (Nat.le_refl _)).more hb2.size, by rw [hst]; exact HNL.out⟩, hB.trans (hb2.mono hBs)⟩
          case measure => simp [intOf]; omega
    · obtain rfl : k = N := by omega
      go_wp2_with fail
      go_ret
      exact ⟨A1, c1, by rw [Ln.circF, HSS.out]; rfl, by rw [Ln.circF, HSS.out]; exact hrd1, hB⟩

section
variable (N : Int) (A : Option Addr) (c : Nat) (bs : List Ln.Bd) (w : World)

set_option maxRecDepth 100000 in
set_option maxHeartbeats 1000000 in
theorem circle_any (hR : Rd w w.heap.size 4 A bs.length (bcells bs)) (hc : Ln.Lv bs) :
    Calls Try.prog 10 #[.agg #[.int .i64 N, .slice A bs.length c]] w fun e w' => ∃ A' c', e = .returned (.tuple #[.slice A' (Ln.ciF N bs).1.length c', .bool (Ln.ciF N bs).2.1, .int .i64 (Ln.ciF N bs).2.2]) ∧
      Rd w' w'.heap.size 1 A' (Ln.ciF N bs).1.length (nlist (Ln.ciF N bs).1) ∧ Below w.heap.size w w' := by
  have hB0 : Below w.heap.size w (w.alloc (.cells #[.int .i64 N, .slice A bs.length c] 24)) := (Below.refl _ _).alloc (Nat.le_refl _) _
  have hR1 := (hR.below hB0 (Nat.le_refl _)).more hB0.size
  have kS := Bk.new w 24 #[.int .i64 N, .slice A bs.length c]
  obtain ⟨r, hr⟩ : ∃ r, Ln.ciF N bs = r := ⟨_, rfl⟩
  rw [hr]
  rw [Ln.ciF] at hr
  by_cases hs : Ln.check N bs = 0
  · obtain ⟨hok, hN⟩ := Ln.ok_of_check hs
    obtain ⟨M, rfl⟩ : ∃ M : Nat, N = M := ⟨N.toNat, by omega⟩
    rw [Int.toNat_natCast] at hok hr
    rw [if_pos hs] at hr
    have HS := Lib.hid hs
    have HR := Lib.hid hr
    clear hs hN hr
    rcases hco : Ln.consF bs M with _ | _
    all_goals
      go_enter Try.func10, Try.ntmps10
      go_wp2_with (first
        | (go_at_call 33; refine (check_any M A c bs _ hR1 hc.len).mono ?_; rw [HS.out]; rintro e w1 ⟨rfl, hb1⟩; have k1 := kS.below hb1 (by simp); have c0 := k1.cell 0; have c1 := k1.cell 1; have hB1 := hB0.trans (hb1.mono hB0.size); have hR2 := (hR.below hB1 (Nat.le_refl _)).more hB1.size)
        | (go_at_call 34; refine (netOf_any M A c bs hok hc _ hR2).mono ?_; rintro e w2 ⟨nb, fr, rfl, hNt, hb2⟩)
        | (go_at_call 35; refine (consistent_any hok _ nb A c fr _ hNt (Nat.le_refl _)).mono ?_; rw [hco]; rintro e w3 ⟨rfl, hb3⟩; have hNt3 := hNt.below hb3 (Nat.le_refl _))
        | (go_at_call 38; refine (firstCircle_any hok _ nb A c fr _ hNt3 hb3.size).mono ?_; rintro e w4 ⟨A', c', rfl, hrd, hb4⟩))
      go_ret3
    · have hr := HR.out
      rw [hco, if_neg (by simp)] at hr
      subst hr
      exact ⟨A', c', rfl, hrd, ((hB1.trans (hb2.mono hB1.size)).trans (hb3.mono (Nat.le_trans hB1.size hb2.size))).trans (hb4.mono (Nat.le_trans (Nat.le_trans hB1.size hb2.size) hb3.size))⟩
    · have hr := HR.out
      rw [hco, if_pos rfl] at hr
      subst hr
      exact ⟨none, 0, rfl, Rd.nil _ _ _ _, (hB1.trans (hb2.mono hB1.size)).trans (hb3.mono (Nat.le_trans hB1.size hb2.size))⟩
  · rw [if_neg hs] at hr
    have hne : (Ln.check N bs != 0) = true := by simp [hs]
    have HR := Lib.hid hr
    clear hs hr
    go_enter Try.func10, Try.ntmps10
    go_wp2_with (go_at_call 33; refine (check_any N A c bs _ hR1 hc.len).mono ?_; rintro e w1 ⟨rfl, hb1⟩)
    go_ret3
    have hr := HR.out
    subst hr
    exact ⟨none, 0, rfl, Rd.nil _ _ _ _, hB0.trans (hb1.mono hB0.size)⟩
end

end Go.Proofs.Yteiaofgkmgllcaa
