/-
  LineClosed: the law's walk.
-/
import Derived.Test.YtdndhfggdjphjaaAlive
import Derived.Test.YtdndhfggdjphjaaAlk
import Derived.Test.YtdndhfggdjphjaaCloP
import Derived.Test.YtdndhfggdjphjaaSame
set_option linter.unusedVariables false
set_option linter.unusedSimpArgs false
namespace Go.Proofs.Ytdndhfggdjphjaa
open Go.RowKit Go.Shelf

namespace Ln
theorem dsF_same {N : Int} {bs cs : List Bd} {k : Nat} (h1 : soundF N bs [] = 0) (h2 : soundF N cs [] = 0) (hk : k < N.toNat) (hs : ∀ b : Nat, b < N.toNat → gt (distF cs N.toNat k) b = gt (distF bs N.toNat k) b) : (dsF N bs k).2.2 = 0 ∧ dsF N cs k = dsF N bs k := by
  have hsd : ∀ {ds : List Bd}, soundF N ds [] = 0 → soundF N ds [(k : Int)] = 0 := fun {ds} h => by
    obtain ⟨hcp, hco, hck⟩ := sound_zero h
    have hp : cpF N ds [(k : Int)] = 0 := by
      rw [cpF, if_pos hck, if_pos]
      simp [isPoint]
      omega
    rw [soundF, if_pos hp, if_pos hco]
  rw [dsF, dsF, if_pos (hsd h1), if_pos (hsd h2)]
  refine ⟨rfl, ?_⟩
  have e1 : dsS N cs k N.toNat = dsS N bs k N.toNat := by
    unfold dsS dF
    refine List.map_congr_left fun b hb => ?_
    rw [Int.toNat_natCast, Int.toNat_natCast, hs b (List.mem_range.1 hb)]
  have e2 : dsI N cs k N.toNat = dsI N bs k N.toNat := by
    unfold dsI dF
    refine List.map_congr_left fun b hb => ?_
    rw [Int.toNat_natCast, Int.toNat_natCast, hs b (List.mem_range.1 hb)]
  rw [e1, e2]
end Ln

set_option maxRecDepth 100000 in
set_option maxHeartbeats 4000000 in
theorem lineClosed_any (N : Int) (A : Option Addr) (c : Nat) (bs : List Ln.Bd) (w : World) (hR : Rd w w.heap.size 4 A bs.length (bcells bs)) (hn : bs.length ≤ 9223372036854775807) (hlv : ∀ x ∈ bs, x.gone = false) :
    Calls Try.prog 11 #[.agg #[.int .i64 N, .slice A bs.length c]] w fun e w' => e = .returned (.bool true) ∧ Below w.heap.size w w' := by
  have s0 := Sy.new (w := w) N c hR
  rcases hf : Ln.fewF N bs.length 14 40 with _ | _
  · have HF := Lib.hid hf
    clear hf
    go_enter Try.func11, Try.ntmps11
    go_wp2_with fail
    refine (some_law N A bs.length c hn _).mono ?_
    rw [HF.out]
    rintro e w1 ⟨rfl, hb1⟩
    have s1 := s0.step hb1
    go_wp2_with fail
    refine (alive_any _).mono ?_
    rintro e w2 ⟨rfl, hb2⟩
    have s2 := s1.step hb2
    go_wp2_with fail
    go_ret
    exact ⟨rfl, s2.bl⟩
  · have hlen := Ln.fewF_len hf (by omega)
    have hLv : Ln.Lv bs := ⟨by omega, hlv⟩
    have h14 : Ln.check N bs = 0 → N ≤ 14 := fun h => (Ln.fewF_ok hf h).1
    have hcl := fun A c w h => lclose_any N A c bs w h hLv h14
    by_cases hz : (Ln.clsF N bs).2 = 0
    · obtain ⟨k1, k2, k3⟩ := Ln.cls_ok h14 hz
      obtain ⟨hck, hN1⟩ : Ln.check N bs = 0 ∧ N ≤ 14 := ⟨(Ln.sound_zero k2).2.2, h14 (Ln.sound_zero k2).2.2⟩
      have hN0 : 0 ≤ N := by have := (Ln.check_len hck).2.2; omega
      have hal : Ln.Alike N bs N (Ln.clA bs N.toNat N.toNat) := ⟨fun k hk => (Ln.dsF_same k2 k3.sound hk (fun b hb => k3.same k b hk hb)).1, fun k hk => (Ln.dsF_same k2 k3.sound hk (fun b hb => k3.same k b hk hb)).2⟩
      rw [k1] at hcl
      obtain ⟨cs, hcs⟩ : ∃ cs, Ln.clA bs N.toNat N.toNat = cs := ⟨_, rfl⟩
      rw [hcs] at hcl k3 hal
      have hLc : Ln.Lv cs := ⟨by have := k3.len; omega, k3.live⟩
      have hcl2 := fun A c w h => lclose_any N A c cs w h hLc (fun _ => hN1)
      rw [k3.again] at hcl2
      have hlc := k3.len
      dsimp only at hcl hcl2
      have hak := fun A c A2 c2 w h1 h2 => alike_any N A c bs N A2 c2 cs w h1 h2 hLv hLc hN0 (by omega) hal
      have hsa := fun A c A2 c2 w h1 h2 => same_any N A c A2 c2 cs w h1 h2 (by omega)
      have H1 := Lib.hid hcl
      have H2 := Lib.hid hcl2
      have H3 := Lib.hid hak
      have H4 := Lib.hid hsa
      have HF := Lib.hid hf
      clear hcl hcl2 hak hsa hf hz k1 k2 k3 hal hcs h14 hck hlv hLv
      go_enter Try.func11, Try.ntmps11
      go_wp2_with fail
      refine (some_law N A bs.length c hn _).mono ?_
      rw [HF.out]
      rintro e w1 ⟨rfl, hb1⟩
      have s1 := s0.step hb1
      obtain ⟨c0, c1, cl⟩ := s1.cells
      go_wp2_with fail
      refine (H1.out _ _ _ s1.rd).mono ?_
      rintro e w2 ⟨Aj, cj, rfl, hj, hb2⟩
      have s2 := (s1.step hb2).alloc (.cells #[.int .i64 N, .slice Aj cs.length cj] 24)
      have j2 := Sy.new (w := w2) N cj hj
      clear c0 c1 cl
      obtain ⟨c0, c1, cl⟩ := j2.cells
      go_wp2_with fail
      obtain ⟨v2, hv2⟩ : ∃ v2, w2.alloc (.cells #[.int .i64 N, .slice Aj cs.length cj] 24) = v2 := ⟨_, rfl⟩
      obtain ⟨jb, hjb⟩ : ∃ jb, w2.heap.size = jb := ⟨_, rfl⟩
      rw [hv2] at s2 j2 ⊢
      rw [hjb] at j2 ⊢
      clear hv2 hjb c0 c1 cl hj
      refine (H2.out _ _ _ j2.rd).mono ?_
      rintro e w3 ⟨Ak, ck, rfl, hk, hb3⟩
      have s3 := (s2.step hb3).alloc (.cells #[.int .i64 N, .slice Ak cs.length ck] 24)
      have j3 := (j2.from.step hb3).alloc (.cells #[.int .i64 N, .slice Ak cs.length ck] 24)
      have k3 := Sy.new (w := w3) N ck hk
      go_wp2_with fail
      obtain ⟨v3, hv3⟩ : ∃ v3, w3.alloc (.cells #[.int .i64 N, .slice Ak cs.length ck] 24) = v3 := ⟨_, rfl⟩
      obtain ⟨kb, hkb⟩ : ∃ kb, w3.heap.size = kb := ⟨_, rfl⟩
      rw [hv3] at s3 j3 k3 ⊢
      rw [hkb] at k3 ⊢
      clear hv3 hkb hk
      refine (alive_any _).mono ?_
      rintro e w4 ⟨rfl, hb4⟩
      have s4 := s3.step hb4
      have j4 := j3.step hb4
      have k4 := k3.from.step hb4
      obtain ⟨c0, c1, cl⟩ := j4.cells
      obtain ⟨d0, d1, dl⟩ := k4.cells
      go_wp2_with fail
      refine (H4.out _ _ _ _ _ j4.rd k4.rd).mono ?_
      rintro e w5 ⟨rfl, hb5⟩
      have s5 := s4.step hb5
      have j5 := j4.step hb5
      clear c0 c1 cl d0 d1 dl
      obtain ⟨c0, c1, cl⟩ := j5.cells
      obtain ⟨d0, d1, dl⟩ := s5.cells
      go_wp2_with fail
      refine (H3.out _ _ _ _ _ s5.rd j5.rd).mono ?_
      rintro e w6 ⟨rfl, hb6⟩
      have s6 := s5.step hb6
      go_wp2_with fail
      go_ret
      exact ⟨rfl, s6.bl⟩
    · have he := Ln.clsF_err hz
      obtain ⟨s, hs⟩ : ∃ s, (Ln.clsF N bs).2 = s := ⟨_, rfl⟩
      rw [he, hs] at hcl
      rw [hs] at hz
      have hne : (s != 0) = true := by simp [hz]
      dsimp only at hcl
      have H1 := Lib.hid hcl
      have HF := Lib.hid hf
      clear hcl hf hz he hs h14 hlv hLv
      go_enter Try.func11, Try.ntmps11
      go_wp2_with fail
      refine (some_law N A bs.length c hn _).mono ?_
      rw [HF.out]
      rintro e w1 ⟨rfl, hb1⟩
      have s1 := s0.step hb1
      obtain ⟨c0, c1, cl⟩ := s1.cells
      go_wp2_with fail
      refine (H1.out _ _ _ s1.rd).mono ?_
      rintro e w2 ⟨Aj, cj, rfl, hj, hb2⟩
      have s2 := (s1.step hb2).alloc (.cells #[.int .i64 0, .slice Aj 0 cj] 24)
      have j2 := Bk.new w2 24 #[.int .i64 0, .slice Aj 0 cj]
      clear c0 c1 cl
      go_wp2_with fail
      obtain ⟨v2, hv2⟩ : ∃ v2, w2.alloc (.cells #[.int .i64 0, .slice Aj 0 cj] 24) = v2 := ⟨_, rfl⟩
      obtain ⟨jb, hjb⟩ : ∃ jb, w2.heap.size = jb := ⟨_, rfl⟩
      try rw [show ([] : List Ln.Bd).length = 0 from rfl]
      rw [hv2] at s2 j2 ⊢
      rw [hjb] at j2 ⊢
      clear hv2 hjb hj
      refine (alive_any _).mono ?_
      rintro e w3 ⟨rfl, hb3⟩
      have s3 := s2.step hb3
      have j3 := j2.below hb3 j2.lt
      have c0 := j3.cell 0
      have c1 := j3.cell 1
      have cl := j3.lt
      simp only [List.getElem?_toArray, List.getElem?_cons_zero, List.getElem?_cons_succ] at c0 c1
      go_wp2_with fail
      go_ret
      exact ⟨rfl, s3.bl⟩

end Go.Proofs.Ytdndhfggdjphjaa
