/-
  LineNeeded: the law's walk.
-/
import Derived.Test.YtdndhfggdjphjaaAlive
import Derived.Test.YtdndhfggdjphjaaCons
import Derived.Test.YtdndhfggdjphjaaTak
set_option linter.unusedVariables false
set_option linter.unusedSimpArgs false
namespace Go.Proofs.Ytdndhfggdjphjaa
open Go.RowKit Go.Shelf

namespace Ln
theorem ned_other {N : Int} {bs : List Bd} (hl : ∀ b ∈ bs, b.gone = false) (hs : soundF N bs [] = 0) (h : NedOk N bs (zl (ndF N bs).1)) {x : Nat} (hx : x < (takF bs (zl (ndF N bs).1)).length) :
    Other N (takF bs (zl (ndF N bs).1)) N (takF (takF bs (zl (ndF N bs).1)) [(x : Int)]) := by
  have hN := (check_len (sound_zero hs).2.2).2.1
  obtain ⟨L, hL⟩ : ∃ L, zl (ndF N bs).1 = L := ⟨_, rfl⟩
  rw [hL] at h hx ⊢
  have h2 := takF_sound L hs
  have h3 := takF_sound [(x : Int)] h2
  refine ⟨fun k hk => ⟨(h.fine k hk).1, (h.fine k hk).2 _⟩, fun k hk => ?_, h.not x hx⟩
  rw [dsF_at (cp_one h2 hk), dsF_at (cp_one h3 hk)]
  dsimp only
  rw [dsS_length, dsS_length, dsI_length, dsI_length]
  exact ⟨rfl, rfl, by omega, by omega⟩
end Ln

set_option maxRecDepth 100000 in
set_option maxHeartbeats 4000000 in
theorem lineNeeded_any (N : Int) (A : Option Addr) (c : Nat) (bs : List Ln.Bd) (u : Int) (w : World) (hR : Rd w w.heap.size 4 A bs.length (bcells bs)) (hn : bs.length ≤ 9223372036854775807) (hlv : ∀ x ∈ bs, x.gone = false) (hu0 : 0 ≤ u) (hu1 : u ≤ 255) :
    Calls Try.prog 10 #[.agg #[.int .i64 N, .slice A bs.length c], .int .u8 u] w fun e w' => e = .returned (.bool true) ∧ Below w.heap.size w w' := by
  have s0 := Sy.new (w := w) N c hR
  rcases hf : Ln.fewF N bs.length 8 14 with _ | _
  · have HF := Lib.hid hf
    clear hf
    go_enter Try.func10, Try.ntmps10
    go_wp2_with fail
    refine (few_law N A bs.length c hn _).mono ?_
    rw [HF.out]
    rintro e w1 ⟨rfl, hb1⟩
    have s1 := s0.step hb1
    go_wp2_with fail
    refine (alive_any _).mono ?_
    rintro e w2 ⟨rfl, hb2⟩
    have s2 := s1.step hb2
    go_wp2_with fail
    go_ret
    exact ⟨rfl, s2.bl⟩
  · have hlen := Ln.fewF_len hf (by omega)
    have hLv : Ln.Lv bs := ⟨by omega, hlv⟩
    have b1 := fun A c w h => needless_any N A c bs w h hLv
    have HF := Lib.hid hf
    by_cases hs : Ln.soundF N bs [] = 0
    · have hned := Ln.ned_ok hlv hs
      have hoth := fun x hx => Ln.ned_other hlv hs hned (x := x) hx
      have hNb := Ln.check_len (Ln.sound_zero hs).2.2
      have hzl := Ln.zl_length (Ln.ndF N bs).1
      have hex : (Ln.ndF N bs).2 = 0 := by rw [Ln.ndF_ok hs]
      rw [show Ln.ndF N bs = ((Ln.ndF N bs).1, 0) from by rw [← hex]] at b1
      obtain ⟨Ln0, hLn0⟩ : ∃ l, (Ln.ndF N bs).1 = l := ⟨_, rfl⟩
      simp only [hLn0] at b1 hned hoth hzl
      obtain ⟨L, hL⟩ : ∃ L, Ln.zl Ln0 = L := ⟨_, rfl⟩
      have hni := nlist_ints Ln0
      rw [hL] at hned hoth hzl hni
      have hLl : Ln0.length ≤ bs.length := by have := hned.len; omega
      have htk := fun A2 c2 A c w h1 h2 => taken_any N A c bs A2 c2 L w h1 h2 (by omega) (by omega)
      rw [hzl] at htk
      obtain ⟨ts, hts⟩ : ∃ ts, Ln.takF bs L = ts := ⟨_, rfl⟩
      have htlv : Ln.Lv ts := ⟨by have := hned.len; rw [hts] at this; omega, by rw [← hts]; exact fun b hb => hlv b (Ln.takF_sub hb)⟩
      have htl : ts.length + Ln0.length = bs.length := by have := hned.len; rw [hts, hzl] at this; exact this
      have halk := fun A c A2 c2 w h1 h2 => alike_any N A c bs N A2 c2 ts w h1 h2 hLv htlv (by omega) hNb.2.1 (by rw [← hts]; exact hned.alike)
      have htk2 := fun (x : Nat) A2 A c w h1 h2 => taken_any N A c ts A2 1 [(x : Int)] w h1 h2 (by omega) (by simp)
      have halk2 := fun (x : Nat) (hx : x < ts.length) A c A2 c2 w h1 h2 => alike_no N A c ts N A2 c2 (Ln.takF ts [(x : Int)]) w h1 h2 htlv ⟨by have := Ln.takK_length ts [(x : Int)] ts.length; unfold Ln.takF; omega, fun b hb => htlv.live b (Ln.takF_sub hb)⟩ (by omega) hNb.2.1 (by have := hoth x (by rw [hts]; exact hx); rw [hts] at this; exact this)
      simp only [hts] at htk
      have hlm : (ts.length : Int) = (bs.length : Int) - (Ln0.length : Int) := by omega
      have HB1 := Lib.hid b1
      have HTK := Lib.hid htk
      have HALK := Lib.hid halk
      have HTK2 := Lib.hid htk2
      have HALK2 := Lib.hid halk2
      have HNI := Lib.hid hni
      have hbl : bs.length ≤ 2005 := hlen
      have htl2 : ts.length ≤ 2005 := by omega
      have HLM := Lib.hid hlm
      have hne : ((ts.length : Int) != (bs.length : Int) - (Ln0.length : Int)) = false := by rw [hlm]; simp
      clear b1 htk halk htk2 halk2 hni hned hoth hs hex hLn0 hL hts htl hlm hf hlv hLv htlv hzl hNb
      go_enter Try.func10, Try.ntmps10
      go_wp2_with fail
      refine (few_law N A bs.length c hn _).mono ?_
      rw [HF.out]
      rintro e w1 ⟨rfl, hb1⟩
      have s1 := s0.step hb1
      obtain ⟨c0, c1, cl⟩ := s1.cells
      go_wp2_with fail
      refine (HB1.out _ _ _ s1.rd).mono ?_
      rintro e w2 ⟨A1, d1, rfl, r1, hb2⟩
      have s2 := s1.step hb2
      clear c0 c1 cl
      obtain ⟨c0, c1, cl⟩ := s2.cells
      have r1' := r1
      rw [HNI.out] at r1'
      go_wp2_with fail
      refine (HTK.out _ _ _ _ _ s2.rd r1').mono ?_
      rintro e w3 ⟨A2, d2, rfl, r2, hb3⟩
      have s3 := (s2.step hb3).alloc (.cells #[.int .i64 N, .slice A2 ts.length d2] 24)
      have t3 := Sy.new (w := w3) N d2 r2
      clear c0 c1 cl r1 r1' r2
      obtain ⟨c0, c1, cl⟩ := s3.cells
      obtain ⟨g0, g1, gl⟩ := t3.cells
      have REL := Lib.hid (And.intro s3 t3)
      clear s3 t3
      go_wp2_with fail
      obtain ⟨s3, t3⟩ := REL.out
      obtain ⟨v3, hv3⟩ : ∃ v3, w3.alloc (.cells #[.int .i64 N, .slice A2 ts.length d2] 24) = v3 := ⟨_, rfl⟩
      obtain ⟨tb, htb⟩ : ∃ tb, w3.heap.size = tb := ⟨_, rfl⟩
      rw [hv3] at s3 t3 ⊢
      rw [htb] at t3 ⊢
      clear REL hv3 htb c0 c1 cl g0 g1 gl
      refine (HALK.out _ _ _ _ _ s3.rd t3.rd).mono ?_
      rintro e w4 ⟨rfl, hb4⟩
      have s4 := s3.step hb4
      have t4 := t3.from.step hb4
      obtain ⟨g0, g1, gl⟩ := t4.cells
      by_cases hm0 : ts.length = 0
      · have e0 : ((ts.length : Int) == 0) = true := by simp [hm0]
        go_wp2_with fail
        refine (alive_any _).mono ?_
        rintro e w5 ⟨rfl, hb5⟩
        have s5 := s4.step hb5
        go_wp2_with fail
        go_ret
        exact ⟨rfl, s5.bl⟩
      · have e0 : ((ts.length : Int) == 0) = false := by rw [beq_eq_false_iff_ne]; omega
        obtain ⟨un, rfl⟩ : ∃ un : Nat, u = un := ⟨u.toNat, by omega⟩
        obtain ⟨m, hm⟩ : ∃ m, ts.length = m := ⟨_, rfl⟩
        have hmp : 0 < m := by omega
        obtain ⟨x, hx⟩ : ∃ x, un % m = x := ⟨_, rfl⟩
        have hxm : x < m := by rw [← hx]; exact Nat.mod_lt _ hmp
        have hrem : (un : Int).tmod (m : Int) = (x : Int) := by rw [Int.tmod_eq_emod_of_nonneg (by omega), ← hx]; rfl
        have hmne : (m : Int) ≠ 0 := by omega
        have hmn0 : ¬ m = 0 := by omega
        have hwu : IntKind.i64.wrap (un : Int) = un := IntWalk.i64_in _ (by omega)
        have hmi : (m : Int) ≤ 2005 := by omega
        go_upto_region 11 with fail
        have hSB : ∀ W, Below w4.heap.size w4 W → W.cell? ⟨tb, 0, none⟩ = some (.int .i64 N) ∧ W.cell? ⟨tb, 1, none⟩ = some (.slice A2 ts.length d2) := fun W hb => ⟨(hb.cell (p := ⟨tb, 0, none⟩) gl).trans g0, (hb.cell (p := ⟨tb, 1, none⟩) gl).trans g1⟩
        have hRD : ∀ W, Below w4.heap.size w4 W → Rd W W.heap.size 4 A2 ts.length (bcells ts) := fun W hb => (t4.rd.below hb (Nat.le_refl _)).more hb.size
        have hone : ∀ (W : World) (y : Int), Rd (W.alloc (.cells #[.int .i64 y] 3)) (W.alloc (.cells #[.int .i64 y] 3)).heap.size 1 (some ⟨W.heap.size, 0, none⟩) 1 (ints [y]) := fun W y => bk_rd (n := 1) (size := 1) (d := [y]) (Bk.new W 3 (av [y])) rfl
        have hak := HALK2.out x (by omega)
        rw [hm] at hSB hRD hak
        try rw [hm]
        have htk2 := HTK2.out
        rw [hm] at htk2
        have HTK3 := Lib.hid htk2
        have HAK := Lib.hid hak
        have HSB := Lib.hid hSB
        have HRD := Lib.hid hRD
        have HONE := Lib.hid hone
        have S4 := Lib.hid s4
        have hbZ : Below w4.heap.size w4 w4.drew := (Below.refl _ _).drew
        clear hSB hRD hone hak htk2 g0 g1 t4 s4 hm e0
        go_cut [4] (fun s9 wx => s9 = .bool true ∧ Below w4.heap.size w4 wx)
        case first =>
          go_region_held3 (fun w' => w'.cell? ⟨tb, 0, none⟩ = some (.int .i64 N) ∧ w'.cell? ⟨tb, 1, none⟩ = some (.slice A2 m d2))
            (first
              | (with_reducible exact HSB.out _ hbE) | (with_reducible exact HSB.out _ hbD) | (with_reducible exact HSB.out _ (hbC.alloc hbC.size _)) | (with_reducible exact HSB.out _ hbC) | (with_reducible exact HSB.out _ hbZ)
              | ((try dsimp only); first | (with_reducible exact HSB.out _ hbE) | (with_reducible exact HSB.out _ hbD) | (with_reducible exact HSB.out _ (hbC.alloc hbC.size _)) | (with_reducible exact HSB.out _ hbC))
              | go_keep)
            (first
              | (go_at_call 16; refine (alive_any _).mono ?_; rintro e wa ⟨rfl, hba⟩; have hbC : Below w4.heap.size w4 wa := hbZ.trans (hba.mono hbZ.size))
              | (go_at_call 36; refine (HTK3.out x (some ⟨wa.heap.size, 0, none⟩) A2 d2 (wa.alloc (.cells #[.int .i64 (x : Int)] 3)) (HRD.out _ (hbC.alloc hbC.size _)) (HONE.out wa _)).mono ?_; rintro e wb ⟨A5, d5, rfl, hr5, hbb⟩; have hbD : Below w4.heap.size w4 wb := (hbC.alloc hbC.size _).trans (hbb.mono (hbC.alloc hbC.size _).size))
              | (go_at_call 37; refine (HAK.out A2 d2 A5 d5 wb (HRD.out _ hbD) hr5).mono ?_; rintro e wd ⟨rfl, hbd⟩; have hbE : Below w4.heap.size w4 wd := hbD.trans (hbd.mono hbD.size)))
          all_goals
            go_wp2_with fail
            go_meet
            exact ⟨rfl, hbE⟩
        case rest =>
          obtain ⟨rfl, hbx⟩ := hcut
          have s5 := S4.out.step hbx
          go_wp2_with fail
          go_ret
          exact ⟨rfl, s5.bl⟩
    · have hnd : Ln.ndF N bs = ([], Ln.soundF N bs []) := by rw [Ln.ndF, if_neg hs]
      rw [hnd] at b1
      dsimp only at b1
      have hne : (Ln.soundF N bs [] != 0) = true := by simp [hs]
      obtain ⟨es, hes⟩ : ∃ es, Ln.soundF N bs [] = es := ⟨_, rfl⟩
      rw [hes] at b1 hne
      have HB1 := Lib.hid b1
      clear b1 hnd hs hes hf hlen hLv hlv
      go_enter Try.func10, Try.ntmps10
      go_wp2_with fail
      refine (few_law N A bs.length c hn _).mono ?_
      rw [HF.out]
      rintro e w1 ⟨rfl, hb1⟩
      have s1 := s0.step hb1
      obtain ⟨c0, c1, cl⟩ := s1.cells
      go_wp2_with fail
      refine (HB1.out _ _ _ s1.rd).mono ?_
      rintro e w2 ⟨A1, d1, rfl, r1, hb2⟩
      have s2 := s1.step hb2
      clear c0 c1 cl r1
      go_wp2_with fail
      refine (alive_any _).mono ?_
      rintro e w3 ⟨rfl, hb3⟩
      have s3 := s2.step hb3
      go_wp2_with fail
      go_ret
      exact ⟨rfl, s3.bl⟩

end Go.Proofs.Ytdndhfggdjphjaa
