/-
  LineMore: the law's walk.
-/
import Derived.Test.YtdndhfggdjphjaaAlive
import Derived.Test.YtdndhfggdjphjaaCons
import Derived.Test.YtdndhfggdjphjaaJoin
set_option linter.unusedVariables false
set_option linter.unusedSimpArgs false
namespace Go.Proofs.Ytdndhfggdjphjaa
open Go.RowKit Go.Shelf

section
variable (N : Int) (A : Option Addr) (c : Nat) (bs : List Ln.Bd) (M : Int) (A2 : Option Addr) (c2 : Nat) (cs : List Ln.Bd) (a b : Int) (w : World)
  (hR : Rd w w.heap.size 4 A bs.length (bcells bs)) (hn : bs.length ≤ 9223372036854775807) (hR2 : Rd w w.heap.size 4 A2 cs.length (bcells cs)) (hn2 : cs.length ≤ 9223372036854775807)

/-- The two systems, boxed one behind the other. -/
theorem two_sys (hR : Rd w w.heap.size 4 A bs.length (bcells bs)) (hR2 : Rd w w.heap.size 4 A2 cs.length (bcells cs)) :
    Sy w ((w.alloc (.cells #[.int .i64 N, .slice A bs.length c] 24)).alloc (.cells #[.int .i64 M, .slice A2 cs.length c2] 24)) w.heap.size N A c bs ∧
    Sy w ((w.alloc (.cells #[.int .i64 N, .slice A bs.length c] 24)).alloc (.cells #[.int .i64 M, .slice A2 cs.length c2] 24)) (w.heap.size + 1) M A2 c2 cs := by
  have h1 := (Sy.new (w := w) N c hR).alloc (.cells #[.int .i64 M, .slice A2 cs.length c2] 24)
  have hB : Below w.heap.size w (w.alloc (.cells #[.int .i64 N, .slice A bs.length c] 24)) := (Below.refl _ _).alloc (Nat.le_refl _) _
  have h2 := Sy.new (w := w.alloc (.cells #[.int .i64 N, .slice A bs.length c] 24)) M c2 ((hR2.below hB (Nat.le_refl _)).more hB.size)
  rw [World.size_alloc] at h2
  exact ⟨h1, h2.bk, h2.rd, h1.bl⟩

def CoC (r : Bool) (N : Int) (bs : List Ln.Bd) : Prop := ∀ A c w, Rd w w.heap.size 4 A bs.length (bcells bs) → Calls Try.prog 23 #[.agg #[.int .i64 N, .slice A bs.length c]] w fun e w' => e = .returned (.tuple #[.bool r, .int .i64 0]) ∧ Below w.heap.size w w'
def BtC (l h : Int × Bool) (e0 : Int) (N : Int) (bs : List Ln.Bd) (a b : Int) : Prop := ∀ A c w, Rd w w.heap.size 4 A bs.length (bcells bs) →
  Calls Try.prog 19 #[.agg #[.int .i64 N, .slice A bs.length c], .int .i64 a, .int .i64 b] w fun e w' => e = .returned (.tuple #[.agg #[.int .i64 l.1, .int .i64 h.1, .bool l.2, .bool h.2], .int .i64 e0]) ∧ Below w.heap.size w w'
def JoC (N : Int) (bs : List Ln.Bd) (M : Int) (cs : List Ln.Bd) (K : Int) (ds : List Ln.Bd) (e0 : Int) : Prop := ∀ A c A2 c2 w, Rd w w.heap.size 4 A bs.length (bcells bs) → Rd w w.heap.size 4 A2 cs.length (bcells cs) →
  Calls Try.prog 42 #[.agg #[.int .i64 N, .slice A bs.length c], .agg #[.int .i64 M, .slice A2 cs.length c2]] w fun e w' => ∃ A' c', e = .returned (.tuple #[.agg #[.int .i64 K, .slice A' ds.length c'], .int .i64 e0]) ∧ Rd w' w'.heap.size 4 A' ds.length (bcells ds) ∧ Below w.heap.size w w'

set_option maxRecDepth 100000 in
set_option maxHeartbeats 2000000 in
include hR hn hR2 in
theorem more_early1 (hf : Ln.fewF N bs.length 8 14 = false) : Calls Try.prog 13 #[.agg #[.int .i64 N, .slice A bs.length c], .agg #[.int .i64 M, .slice A2 cs.length c2], .int .i64 a, .int .i64 b] w fun e w' => e = .returned (.bool true) ∧ Below w.heap.size w w' := by
  obtain ⟨s0, t0⟩ := two_sys N A c bs M A2 c2 cs w hR hR2
  have HF := Lib.hid hf
  clear hf
  go_enter Try.func13, Try.ntmps13
  go_wp2_with fail
  refine (few_law N A bs.length c hn _).mono ?_
  rw [HF.out]
  rintro e w1 ⟨rfl, hb1⟩
  have s1 := s0.step hb1
  go_wp2_with fail
  refine (alive_any _).mono ?_
  rintro e w2 ⟨rfl, hb2⟩
  have s2 := s1.step hb2
  go_wp2_with fail
  go_ret
  exact ⟨rfl, s2.bl⟩

set_option maxRecDepth 100000 in
set_option maxHeartbeats 2000000 in
include hR hn hR2 hn2 in
theorem more_early2 (hf : Ln.fewF N bs.length 8 14 = true) (hf2 : Ln.fewF M cs.length 8 14 = false) : Calls Try.prog 13 #[.agg #[.int .i64 N, .slice A bs.length c], .agg #[.int .i64 M, .slice A2 cs.length c2], .int .i64 a, .int .i64 b] w fun e w' => e = .returned (.bool true) ∧ Below w.heap.size w w' := by
  obtain ⟨s0, t0⟩ := two_sys N A c bs M A2 c2 cs w hR hR2
  have HF := Lib.hid hf
  have HF2 := Lib.hid hf2
  clear hf hf2
  go_enter Try.func13, Try.ntmps13
  go_wp2_with fail
  refine (few_law N A bs.length c hn _).mono ?_
  rw [HF.out]
  rintro e w1 ⟨rfl, hb1⟩
  have s1 := s0.step hb1
  have t1 := t0.step hb1
  obtain ⟨c0, c1, cl⟩ := s1.cells
  obtain ⟨d0, d1, dl⟩ := t1.cells
  go_wp2_with fail
  refine (few_law M A2 cs.length c2 hn2 _).mono ?_
  rw [HF2.out]
  rintro e w2 ⟨rfl, hb2⟩
  have s2 := s1.step hb2
  have t2 := t1.step hb2
  clear c0 c1 cl d0 d1 dl
  obtain ⟨c0, c1, cl⟩ := s2.cells
  obtain ⟨d0, d1, dl⟩ := t2.cells
  go_wp2_with fail
  refine (alive_any _).mono ?_
  rintro e w3 ⟨rfl, hb3⟩
  have s3 := s2.step hb3
  go_wp2_with fail
  go_ret
  exact ⟨rfl, s3.bl⟩

set_option maxRecDepth 100000 in
set_option maxHeartbeats 2000000 in
include hR hn hR2 hn2 in
theorem more_err (hf : Ln.fewF N bs.length 8 14 = true) (hf2 : Ln.fewF M cs.length 8 14 = true) (JN KN : Int) (J K : List Ln.Bd) (e f : Int) (he : e ≠ 0) (hfe : f ≠ 0) (HJ : Hid (JoC N bs M cs JN J e)) (HK : Hid (JoC M cs N bs KN K f)) : Calls Try.prog 13 #[.agg #[.int .i64 N, .slice A bs.length c], .agg #[.int .i64 M, .slice A2 cs.length c2], .int .i64 a, .int .i64 b] w fun e w' => e = .returned (.bool true) ∧ Below w.heap.size w w' := by
  obtain ⟨s0, t0⟩ := two_sys N A c bs M A2 c2 cs w hR hR2
  have HF := Lib.hid hf
  have HF2 := Lib.hid hf2
  have hne : (e != 0) = true := by simp [he]
  have hnf : (f != 0) = true := by simp [hfe]
  clear hf hf2 he hfe
  go_enter Try.func13, Try.ntmps13
  go_wp2_with fail
  refine (few_law N A bs.length c hn _).mono ?_
  rw [HF.out]
  rintro e w1 ⟨rfl, hb1⟩
  have s1 := s0.step hb1
  have t1 := t0.step hb1
  obtain ⟨c0, c1, cl⟩ := s1.cells
  obtain ⟨d0, d1, dl⟩ := t1.cells
  go_wp2_with fail
  refine (few_law M A2 cs.length c2 hn2 _).mono ?_
  rw [HF2.out]
  rintro e w2 ⟨rfl, hb2⟩
  have s2 := s1.step hb2
  have t2 := t1.step hb2
  clear c0 c1 cl d0 d1 dl
  obtain ⟨c0, c1, cl⟩ := s2.cells
  obtain ⟨d0, d1, dl⟩ := t2.cells
  go_wp2_with fail
  refine (HJ.out _ _ _ _ _ s2.rd t2.rd).mono ?_
  rintro e w3 ⟨Aj, cj, rfl, hj, hb3⟩
  have s3 := (s2.step hb3).alloc (.cells #[.int .i64 JN, .slice Aj J.length cj] 24)
  have t3 := (t2.step hb3).alloc (.cells #[.int .i64 JN, .slice Aj J.length cj] 24)
  have j3 := Sy.new (w := w3) JN cj hj
  clear c0 c1 cl d0 d1 dl
  obtain ⟨c0, c1, cl⟩ := s3.cells
  obtain ⟨d0, d1, dl⟩ := t3.cells
  go_wp2_with fail
  obtain ⟨v3, hv3⟩ : ∃ v3, w3.alloc (.cells #[.int .i64 JN, .slice Aj J.length cj] 24) = v3 := ⟨_, rfl⟩
  obtain ⟨jb, hjb⟩ : ∃ jb, w3.heap.size = jb := ⟨_, rfl⟩
  rw [hv3] at s3 t3 j3 ⊢
  rw [hjb] at j3 ⊢
  clear hv3 hjb c0 c1 cl d0 d1 dl hj
  refine (HK.out _ _ _ _ _ t3.rd s3.rd).mono ?_
  rintro e w4 ⟨Ak, ck, rfl, hk, hb4⟩
  have s4 := (s3.step hb4).alloc (.cells #[.int .i64 KN, .slice Ak K.length ck] 24)
  have t4 := (t3.step hb4).alloc (.cells #[.int .i64 KN, .slice Ak K.length ck] 24)
  have j4 := (j3.from.step hb4).alloc (.cells #[.int .i64 KN, .slice Ak K.length ck] 24)
  have k4 := Sy.new (w := w4) KN ck hk
  obtain ⟨c0, c1, cl⟩ := s4.cells
  obtain ⟨d0, d1, dl⟩ := t4.cells
  go_wp2_with fail
  refine (alive_any _).mono ?_
  rintro e w5 ⟨rfl, hb5⟩
  have s5 := s4.step hb5
  go_wp2_with fail
  go_ret
  exact ⟨rfl, s5.bl⟩

set_option maxRecDepth 100000 in
set_option maxHeartbeats 2000000 in
include hR hn hR2 hn2 in
theorem more_no_tt (hf : Ln.fewF N bs.length 8 14 = true) (hf2 : Ln.fewF M cs.length 8 14 = true) (JN KN : Int) (J K : List Ln.Bd) (HJ : Hid (JoC N bs M cs JN J 0)) (HK : Hid (JoC M cs N bs KN K 0)) (H1 : Hid (CoC true N bs)) (H2 : Hid (CoC true JN J)) (H3 : Hid (CoC true KN K)) (lx hx ly hy : Int × Bool) (ex ey : Int) (hey : ey ≠ 0) (B1 : Hid (BtC lx hx ex N bs a b)) (B2 : Hid (BtC ly hy ey JN J a b)) (B3 : Hid (BtC ly hy ey KN K a b)) : Calls Try.prog 13 #[.agg #[.int .i64 N, .slice A bs.length c], .agg #[.int .i64 M, .slice A2 cs.length c2], .int .i64 a, .int .i64 b] w fun e w' => e = .returned (.bool true) ∧ Below w.heap.size w w' := by
  obtain ⟨s0, t0⟩ := two_sys N A c bs M A2 c2 cs w hR hR2
  have HF := Lib.hid hf
  have HF2 := Lib.hid hf2
  clear hf hf2
  have hne : (ey != 0) = true := by simp [hey]
  clear hey
  go_enter Try.func13, Try.ntmps13
  go_wp2_with fail
  refine (few_law N A bs.length c hn _).mono ?_
  rw [HF.out]
  rintro e w1 ⟨rfl, hb1⟩
  have s1 := s0.step hb1
  have t1 := t0.step hb1
  obtain ⟨c0, c1, cl⟩ := s1.cells
  obtain ⟨d0, d1, dl⟩ := t1.cells
  go_wp2_with fail
  refine (few_law M A2 cs.length c2 hn2 _).mono ?_
  rw [HF2.out]
  rintro e w2 ⟨rfl, hb2⟩
  have s2 := s1.step hb2
  have t2 := t1.step hb2
  clear c0 c1 cl d0 d1 dl
  obtain ⟨c0, c1, cl⟩ := s2.cells
  obtain ⟨d0, d1, dl⟩ := t2.cells
  go_wp2_with fail
  refine (HJ.out _ _ _ _ _ s2.rd t2.rd).mono ?_
  rintro e w3 ⟨Aj, cj, rfl, hj, hb3⟩
  have s3 := (s2.step hb3).alloc (.cells #[.int .i64 JN, .slice Aj J.length cj] 24)
  have t3 := (t2.step hb3).alloc (.cells #[.int .i64 JN, .slice Aj J.length cj] 24)
  have j3 := Sy.new (w := w3) JN cj hj
  clear c0 c1 cl d0 d1 dl
  obtain ⟨c0, c1, cl⟩ := s3.cells
  obtain ⟨d0, d1, dl⟩ := t3.cells
  go_wp2_with fail
  obtain ⟨v3, hv3⟩ : ∃ v3, w3.alloc (.cells #[.int .i64 JN, .slice Aj J.length cj] 24) = v3 := ⟨_, rfl⟩
  obtain ⟨jb, hjb⟩ : ∃ jb, w3.heap.size = jb := ⟨_, rfl⟩
  rw [hv3] at s3 t3 j3 ⊢
  rw [hjb] at j3 ⊢
  clear hv3 hjb c0 c1 cl d0 d1 dl hj
  refine (HK.out _ _ _ _ _ t3.rd s3.rd).mono ?_
  rintro e w4 ⟨Ak, ck, rfl, hk, hb4⟩
  have s4 := (s3.step hb4).alloc (.cells #[.int .i64 KN, .slice Ak K.length ck] 24)
  have t4 := (t3.step hb4).alloc (.cells #[.int .i64 KN, .slice Ak K.length ck] 24)
  have j4 := (j3.from.step hb4).alloc (.cells #[.int .i64 KN, .slice Ak K.length ck] 24)
  have k4 := Sy.new (w := w4) KN ck hk
  obtain ⟨c0, c1, cl⟩ := s4.cells
  obtain ⟨d0, d1, dl⟩ := t4.cells
  go_wp2_with fail
  obtain ⟨v4, hv4⟩ : ∃ v4, w4.alloc (.cells #[.int .i64 KN, .slice Ak K.length ck] 24) = v4 := ⟨_, rfl⟩
  obtain ⟨kb, hkb⟩ : ∃ kb, w4.heap.size = kb := ⟨_, rfl⟩
  rw [hv4] at s4 t4 j4 k4 ⊢
  rw [hkb] at k4 ⊢
  clear hv4 hkb c0 c1 cl d0 d1 dl hk
  refine (H1.out _ _ _ s4.rd).mono ?_
  rintro e w5 ⟨rfl, hb5⟩
  have s5 := s4.step hb5
  have j5 := j4.step hb5
  have k5 := k4.from.step hb5
  obtain ⟨c0, c1, cl⟩ := j5.cells
  go_wp2_with fail
  refine (H2.out _ _ _ j5.rd).mono ?_
  rintro e w6 ⟨rfl, hb6⟩
  have s6 := s5.step hb6
  have j6 := j5.step hb6
  have k6 := k5.step hb6
  clear c0 c1 cl
  obtain ⟨c0, c1, cl⟩ := k6.cells
  go_wp2_with fail
  refine (H3.out _ _ _ k6.rd).mono ?_
  rintro e w7 ⟨rfl, hb7⟩
  have s7 := s6.step hb7
  have j7 := j6.step hb7
  have k7 := k6.step hb7
  clear c0 c1 cl
  obtain ⟨c0, c1, cl⟩ := s7.cells
  go_wp2_with fail
  refine (B1.out _ _ _ s7.rd).mono ?_
  rintro e w8 ⟨rfl, hb8⟩
  have s8 := (s7.step hb8).alloc (.cells #[.int .i64 lx.1, .int .i64 hx.1, .bool lx.2, .bool hx.2] 28)
  have j8 := (j7.step hb8).alloc (.cells #[.int .i64 lx.1, .int .i64 hx.1, .bool lx.2, .bool hx.2] 28)
  have k8 := (k7.step hb8).alloc (.cells #[.int .i64 lx.1, .int .i64 hx.1, .bool lx.2, .bool hx.2] 28)
  have x8 := Bk.new w8 28 #[.int .i64 lx.1, .int .i64 hx.1, .bool lx.2, .bool hx.2]
  clear c0 c1 cl
  obtain ⟨c0, c1, cl⟩ := j8.cells
  go_wp2_with fail
  obtain ⟨v8, hv8⟩ : ∃ v8, w8.alloc (.cells #[.int .i64 lx.1, .int .i64 hx.1, .bool lx.2, .bool hx.2] 28) = v8 := ⟨_, rfl⟩
  obtain ⟨xb, hxb⟩ : ∃ xb, w8.heap.size = xb := ⟨_, rfl⟩
  rw [hv8] at s8 j8 k8 x8 ⊢
  rw [hxb] at x8 ⊢
  clear hv8 hxb c0 c1 cl
  refine (B2.out _ _ _ j8.rd).mono ?_
  rintro e w9 ⟨rfl, hb9⟩
  have s9 := (s8.step hb9).alloc (.cells #[.int .i64 ly.1, .int .i64 hy.1, .bool ly.2, .bool hy.2] 28)
  have k9 := (k8.step hb9).alloc (.cells #[.int .i64 ly.1, .int .i64 hy.1, .bool ly.2, .bool hy.2] 28)
  have x9 := (x8.below hb9 x8.lt).alloc (.cells #[.int .i64 ly.1, .int .i64 hy.1, .bool ly.2, .bool hy.2] 28)
  have y9 := Bk.new w9 28 #[.int .i64 ly.1, .int .i64 hy.1, .bool ly.2, .bool hy.2]
  obtain ⟨c0, c1, cl⟩ := k9.cells
  go_wp2_with fail
  obtain ⟨v9, hv9⟩ : ∃ v9, w9.alloc (.cells #[.int .i64 ly.1, .int .i64 hy.1, .bool ly.2, .bool hy.2] 28) = v9 := ⟨_, rfl⟩
  obtain ⟨yb, hyb⟩ : ∃ yb, w9.heap.size = yb := ⟨_, rfl⟩
  rw [hv9] at s9 k9 x9 y9 ⊢
  rw [hyb] at y9 ⊢
  clear hv9 hyb c0 c1 cl
  refine (B3.out _ _ _ k9.rd).mono ?_
  rintro e w10 ⟨rfl, hb10⟩
  have s10 := (s9.step hb10).alloc (.cells #[.int .i64 ly.1, .int .i64 hy.1, .bool ly.2, .bool hy.2] 28)
  have x10 := (x9.below hb10 x9.lt).alloc (.cells #[.int .i64 ly.1, .int .i64 hy.1, .bool ly.2, .bool hy.2] 28)
  have y10 := (y9.below hb10 y9.lt).alloc (.cells #[.int .i64 ly.1, .int .i64 hy.1, .bool ly.2, .bool hy.2] 28)
  have z10 := Bk.new w10 28 #[.int .i64 ly.1, .int .i64 hy.1, .bool ly.2, .bool hy.2]
  go_wp2_with fail
  refine (alive_any _).mono ?_
  rintro e w11 ⟨rfl, hb11⟩
  have s11 := s10.step hb11
  go_wp2_with fail
  go_ret
  exact ⟨rfl, s11.bl⟩

set_option maxRecDepth 100000 in
set_option maxHeartbeats 2000000 in
include hR hn hR2 hn2 in
theorem more_no_tf (hf : Ln.fewF N bs.length 8 14 = true) (hf2 : Ln.fewF M cs.length 8 14 = true) (JN KN : Int) (J K : List Ln.Bd) (HJ : Hid (JoC N bs M cs JN J 0)) (HK : Hid (JoC M cs N bs KN K 0)) (H1 : Hid (CoC true N bs)) (H2 : Hid (CoC false JN J)) (H3 : Hid (CoC false KN K)) (lx hx ly hy : Int × Bool) (ex ey : Int) (hey : ey ≠ 0) (B1 : Hid (BtC lx hx ex N bs a b)) (B2 : Hid (BtC ly hy ey JN J a b)) (B3 : Hid (BtC ly hy ey KN K a b)) : Calls Try.prog 13 #[.agg #[.int .i64 N, .slice A bs.length c], .agg #[.int .i64 M, .slice A2 cs.length c2], .int .i64 a, .int .i64 b] w fun e w' => e = .returned (.bool true) ∧ Below w.heap.size w w' := by
  obtain ⟨s0, t0⟩ := two_sys N A c bs M A2 c2 cs w hR hR2
  have HF := Lib.hid hf
  have HF2 := Lib.hid hf2
  clear hf hf2
  have hne : (ey != 0) = true := by simp [hey]
  clear hey
  go_enter Try.func13, Try.ntmps13
  go_wp2_with fail
  refine (few_law N A bs.length c hn _).mono ?_
  rw [HF.out]
  rintro e w1 ⟨rfl, hb1⟩
  have s1 := s0.step hb1
  have t1 := t0.step hb1
  obtain ⟨c0, c1, cl⟩ := s1.cells
  obtain ⟨d0, d1, dl⟩ := t1.cells
  go_wp2_with fail
  refine (few_law M A2 cs.length c2 hn2 _).mono ?_
  rw [HF2.out]
  rintro e w2 ⟨rfl, hb2⟩
  have s2 := s1.step hb2
  have t2 := t1.step hb2
  clear c0 c1 cl d0 d1 dl
  obtain ⟨c0, c1, cl⟩ := s2.cells
  obtain ⟨d0, d1, dl⟩ := t2.cells
  go_wp2_with fail
  refine (HJ.out _ _ _ _ _ s2.rd t2.rd).mono ?_
  rintro e w3 ⟨Aj, cj, rfl, hj, hb3⟩
  have s3 := (s2.step hb3).alloc (.cells #[.int .i64 JN, .slice Aj J.length cj] 24)
  have t3 := (t2.step hb3).alloc (.cells #[.int .i64 JN, .slice Aj J.length cj] 24)
  have j3 := Sy.new (w := w3) JN cj hj
  clear c0 c1 cl d0 d1 dl
  obtain ⟨c0, c1, cl⟩ := s3.cells
  obtain ⟨d0, d1, dl⟩ := t3.cells
  go_wp2_with fail
  obtain ⟨v3, hv3⟩ : ∃ v3, w3.alloc (.cells #[.int .i64 JN, .slice Aj J.length cj] 24) = v3 := ⟨_, rfl⟩
  obtain ⟨jb, hjb⟩ : ∃ jb, w3.heap.size = jb := ⟨_, rfl⟩
  rw [hv3] at s3 t3 j3 ⊢
  rw [hjb] at j3 ⊢
  clear hv3 hjb c0 c1 cl d0 d1 dl hj
  refine (HK.out _ _ _ _ _ t3.rd s3.rd).mono ?_
  rintro e w4 ⟨Ak, ck, rfl, hk, hb4⟩
  have s4 := (s3.step hb4).alloc (.cells #[.int .i64 KN, .slice Ak K.length ck] 24)
  have t4 := (t3.step hb4).alloc (.cells #[.int .i64 KN, .slice Ak K.length ck] 24)
  have j4 := (j3.from.step hb4).alloc (.cells #[.int .i64 KN, .slice Ak K.length ck] 24)
  have k4 := Sy.new (w := w4) KN ck hk
  obtain ⟨c0, c1, cl⟩ := s4.cells
  obtain ⟨d0, d1, dl⟩ := t4.cells
  go_wp2_with fail
  obtain ⟨v4, hv4⟩ : ∃ v4, w4.alloc (.cells #[.int .i64 KN, .slice Ak K.length ck] 24) = v4 := ⟨_, rfl⟩
  obtain ⟨kb, hkb⟩ : ∃ kb, w4.heap.size = kb := ⟨_, rfl⟩
  rw [hv4] at s4 t4 j4 k4 ⊢
  rw [hkb] at k4 ⊢
  clear hv4 hkb c0 c1 cl d0 d1 dl hk
  refine (H1.out _ _ _ s4.rd).mono ?_
  rintro e w5 ⟨rfl, hb5⟩
  have s5 := s4.step hb5
  have j5 := j4.step hb5
  have k5 := k4.from.step hb5
  obtain ⟨c0, c1, cl⟩ := j5.cells
  go_wp2_with fail
  refine (H2.out _ _ _ j5.rd).mono ?_
  rintro e w6 ⟨rfl, hb6⟩
  have s6 := s5.step hb6
  have j6 := j5.step hb6
  have k6 := k5.step hb6
  clear c0 c1 cl
  obtain ⟨c0, c1, cl⟩ := k6.cells
  go_wp2_with fail
  refine (H3.out _ _ _ k6.rd).mono ?_
  rintro e w7 ⟨rfl, hb7⟩
  have s7 := s6.step hb7
  have j7 := j6.step hb7
  have k7 := k6.step hb7
  clear c0 c1 cl
  obtain ⟨c0, c1, cl⟩ := s7.cells
  go_wp2_with fail
  refine (B1.out _ _ _ s7.rd).mono ?_
  rintro e w8 ⟨rfl, hb8⟩
  have s8 := (s7.step hb8).alloc (.cells #[.int .i64 lx.1, .int .i64 hx.1, .bool lx.2, .bool hx.2] 28)
  have j8 := (j7.step hb8).alloc (.cells #[.int .i64 lx.1, .int .i64 hx.1, .bool lx.2, .bool hx.2] 28)
  have k8 := (k7.step hb8).alloc (.cells #[.int .i64 lx.1, .int .i64 hx.1, .bool lx.2, .bool hx.2] 28)
  have x8 := Bk.new w8 28 #[.int .i64 lx.1, .int .i64 hx.1, .bool lx.2, .bool hx.2]
  clear c0 c1 cl
  obtain ⟨c0, c1, cl⟩ := j8.cells
  go_wp2_with fail
  obtain ⟨v8, hv8⟩ : ∃ v8, w8.alloc (.cells #[.int .i64 lx.1, .int .i64 hx.1, .bool lx.2, .bool hx.2] 28) = v8 := ⟨_, rfl⟩
  obtain ⟨xb, hxb⟩ : ∃ xb, w8.heap.size = xb := ⟨_, rfl⟩
  rw [hv8] at s8 j8 k8 x8 ⊢
  rw [hxb] at x8 ⊢
  clear hv8 hxb c0 c1 cl
  refine (B2.out _ _ _ j8.rd).mono ?_
  rintro e w9 ⟨rfl, hb9⟩
  have s9 := (s8.step hb9).alloc (.cells #[.int .i64 ly.1, .int .i64 hy.1, .bool ly.2, .bool hy.2] 28)
  have k9 := (k8.step hb9).alloc (.cells #[.int .i64 ly.1, .int .i64 hy.1, .bool ly.2, .bool hy.2] 28)
  have x9 := (x8.below hb9 x8.lt).alloc (.cells #[.int .i64 ly.1, .int .i64 hy.1, .bool ly.2, .bool hy.2] 28)
  have y9 := Bk.new w9 28 #[.int .i64 ly.1, .int .i64 hy.1, .bool ly.2, .bool hy.2]
  obtain ⟨c0, c1, cl⟩ := k9.cells
  go_wp2_with fail
  obtain ⟨v9, hv9⟩ : ∃ v9, w9.alloc (.cells #[.int .i64 ly.1, .int .i64 hy.1, .bool ly.2, .bool hy.2] 28) = v9 := ⟨_, rfl⟩
  obtain ⟨yb, hyb⟩ : ∃ yb, w9.heap.size = yb := ⟨_, rfl⟩
  rw [hv9] at s9 k9 x9 y9 ⊢
  rw [hyb] at y9 ⊢
  clear hv9 hyb c0 c1 cl
  refine (B3.out _ _ _ k9.rd).mono ?_
  rintro e w10 ⟨rfl, hb10⟩
  have s10 := (s9.step hb10).alloc (.cells #[.int .i64 ly.1, .int .i64 hy.1, .bool ly.2, .bool hy.2] 28)
  have x10 := (x9.below hb10 x9.lt).alloc (.cells #[.int .i64 ly.1, .int .i64 hy.1, .bool ly.2, .bool hy.2] 28)
  have y10 := (y9.below hb10 y9.lt).alloc (.cells #[.int .i64 ly.1, .int .i64 hy.1, .bool ly.2, .bool hy.2] 28)
  have z10 := Bk.new w10 28 #[.int .i64 ly.1, .int .i64 hy.1, .bool ly.2, .bool hy.2]
  go_wp2_with fail
  refine (alive_any _).mono ?_
  rintro e w11 ⟨rfl, hb11⟩
  have s11 := s10.step hb11
  go_wp2_with fail
  go_ret
  exact ⟨rfl, s11.bl⟩

set_option maxRecDepth 100000 in
set_option maxHeartbeats 2000000 in
include hR hn hR2 hn2 in
theorem more_no_ff (hf : Ln.fewF N bs.length 8 14 = true) (hf2 : Ln.fewF M cs.length 8 14 = true) (JN KN : Int) (J K : List Ln.Bd) (HJ : Hid (JoC N bs M cs JN J 0)) (HK : Hid (JoC M cs N bs KN K 0)) (H1 : Hid (CoC false N bs)) (H2 : Hid (CoC false JN J)) (H3 : Hid (CoC false KN K)) (lx hx ly hy : Int × Bool) (ex ey : Int) (hey : ey ≠ 0) (B1 : Hid (BtC lx hx ex N bs a b)) (B2 : Hid (BtC ly hy ey JN J a b)) (B3 : Hid (BtC ly hy ey KN K a b)) : Calls Try.prog 13 #[.agg #[.int .i64 N, .slice A bs.length c], .agg #[.int .i64 M, .slice A2 cs.length c2], .int .i64 a, .int .i64 b] w fun e w' => e = .returned (.bool true) ∧ Below w.heap.size w w' := by
  obtain ⟨s0, t0⟩ := two_sys N A c bs M A2 c2 cs w hR hR2
  have HF := Lib.hid hf
  have HF2 := Lib.hid hf2
  clear hf hf2
  have hne : (ey != 0) = true := by simp [hey]
  clear hey
  go_enter Try.func13, Try.ntmps13
  go_wp2_with fail
  refine (few_law N A bs.length c hn _).mono ?_
  rw [HF.out]
  rintro e w1 ⟨rfl, hb1⟩
  have s1 := s0.step hb1
  have t1 := t0.step hb1
  obtain ⟨c0, c1, cl⟩ := s1.cells
  obtain ⟨d0, d1, dl⟩ := t1.cells
  go_wp2_with fail
  refine (few_law M A2 cs.length c2 hn2 _).mono ?_
  rw [HF2.out]
  rintro e w2 ⟨rfl, hb2⟩
  have s2 := s1.step hb2
  have t2 := t1.step hb2
  clear c0 c1 cl d0 d1 dl
  obtain ⟨c0, c1, cl⟩ := s2.cells
  obtain ⟨d0, d1, dl⟩ := t2.cells
  go_wp2_with fail
  refine (HJ.out _ _ _ _ _ s2.rd t2.rd).mono ?_
  rintro e w3 ⟨Aj, cj, rfl, hj, hb3⟩
  have s3 := (s2.step hb3).alloc (.cells #[.int .i64 JN, .slice Aj J.length cj] 24)
  have t3 := (t2.step hb3).alloc (.cells #[.int .i64 JN, .slice Aj J.length cj] 24)
  have j3 := Sy.new (w := w3) JN cj hj
  clear c0 c1 cl d0 d1 dl
  obtain ⟨c0, c1, cl⟩ := s3.cells
  obtain ⟨d0, d1, dl⟩ := t3.cells
  go_wp2_with fail
  obtain ⟨v3, hv3⟩ : ∃ v3, w3.alloc (.cells #[.int .i64 JN, .slice Aj J.length cj] 24) = v3 := ⟨_, rfl⟩
  obtain ⟨jb, hjb⟩ : ∃ jb, w3.heap.size = jb := ⟨_, rfl⟩
  rw [hv3] at s3 t3 j3 ⊢
  rw [hjb] at j3 ⊢
  clear hv3 hjb c0 c1 cl d0 d1 dl hj
  refine (HK.out _ _ _ _ _ t3.rd s3.rd).mono ?_
  rintro e w4 ⟨Ak, ck, rfl, hk, hb4⟩
  have s4 := (s3.step hb4).alloc (.cells #[.int .i64 KN, .slice Ak K.length ck] 24)
  have t4 := (t3.step hb4).alloc (.cells #[.int .i64 KN, .slice Ak K.length ck] 24)
  have j4 := (j3.from.step hb4).alloc (.cells #[.int .i64 KN, .slice Ak K.length ck] 24)
  have k4 := Sy.new (w := w4) KN ck hk
  obtain ⟨c0, c1, cl⟩ := s4.cells
  obtain ⟨d0, d1, dl⟩ := t4.cells
  go_wp2_with fail
  obtain ⟨v4, hv4⟩ : ∃ v4, w4.alloc (.cells #[.int .i64 KN, .slice Ak K.length ck] 24) = v4 := ⟨_, rfl⟩
  obtain ⟨kb, hkb⟩ : ∃ kb, w4.heap.size = kb := ⟨_, rfl⟩
  rw [hv4] at s4 t4 j4 k4 ⊢
  rw [hkb] at k4 ⊢
  clear hv4 hkb c0 c1 cl d0 d1 dl hk
  refine (H1.out _ _ _ s4.rd).mono ?_
  rintro e w5 ⟨rfl, hb5⟩
  have s5 := s4.step hb5
  have j5 := j4.step hb5
  have k5 := k4.from.step hb5
  obtain ⟨c0, c1, cl⟩ := j5.cells
  go_wp2_with fail
  refine (H2.out _ _ _ j5.rd).mono ?_
  rintro e w6 ⟨rfl, hb6⟩
  have s6 := s5.step hb6
  have j6 := j5.step hb6
  have k6 := k5.step hb6
  clear c0 c1 cl
  obtain ⟨c0, c1, cl⟩ := k6.cells
  go_wp2_with fail
  refine (H3.out _ _ _ k6.rd).mono ?_
  rintro e w7 ⟨rfl, hb7⟩
  have s7 := s6.step hb7
  have j7 := j6.step hb7
  have k7 := k6.step hb7
  clear c0 c1 cl
  obtain ⟨c0, c1, cl⟩ := s7.cells
  go_wp2_with fail
  refine (B1.out _ _ _ s7.rd).mono ?_
  rintro e w8 ⟨rfl, hb8⟩
  have s8 := (s7.step hb8).alloc (.cells #[.int .i64 lx.1, .int .i64 hx.1, .bool lx.2, .bool hx.2] 28)
  have j8 := (j7.step hb8).alloc (.cells #[.int .i64 lx.1, .int .i64 hx.1, .bool lx.2, .bool hx.2] 28)
  have k8 := (k7.step hb8).alloc (.cells #[.int .i64 lx.1, .int .i64 hx.1, .bool lx.2, .bool hx.2] 28)
  have x8 := Bk.new w8 28 #[.int .i64 lx.1, .int .i64 hx.1, .bool lx.2, .bool hx.2]
  clear c0 c1 cl
  obtain ⟨c0, c1, cl⟩ := j8.cells
  go_wp2_with fail
  obtain ⟨v8, hv8⟩ : ∃ v8, w8.alloc (.cells #[.int .i64 lx.1, .int .i64 hx.1, .bool lx.2, .bool hx.2] 28) = v8 := ⟨_, rfl⟩
  obtain ⟨xb, hxb⟩ : ∃ xb, w8.heap.size = xb := ⟨_, rfl⟩
  rw [hv8] at s8 j8 k8 x8 ⊢
  rw [hxb] at x8 ⊢
  clear hv8 hxb c0 c1 cl
  refine (B2.out _ _ _ j8.rd).mono ?_
  rintro e w9 ⟨rfl, hb9⟩
  have s9 := (s8.step hb9).alloc (.cells #[.int .i64 ly.1, .int .i64 hy.1, .bool ly.2, .bool hy.2] 28)
  have k9 := (k8.step hb9).alloc (.cells #[.int .i64 ly.1, .int .i64 hy.1, .bool ly.2, .bool hy.2] 28)
  have x9 := (x8.below hb9 x8.lt).alloc (.cells #[.int .i64 ly.1, .int .i64 hy.1, .bool ly.2, .bool hy.2] 28)
  have y9 := Bk.new w9 28 #[.int .i64 ly.1, .int .i64 hy.1, .bool ly.2, .bool hy.2]
  obtain ⟨c0, c1, cl⟩ := k9.cells
  go_wp2_with fail
  obtain ⟨v9, hv9⟩ : ∃ v9, w9.alloc (.cells #[.int .i64 ly.1, .int .i64 hy.1, .bool ly.2, .bool hy.2] 28) = v9 := ⟨_, rfl⟩
  obtain ⟨yb, hyb⟩ : ∃ yb, w9.heap.size = yb := ⟨_, rfl⟩
  rw [hv9] at s9 k9 x9 y9 ⊢
  rw [hyb] at y9 ⊢
  clear hv9 hyb c0 c1 cl
  refine (B3.out _ _ _ k9.rd).mono ?_
  rintro e w10 ⟨rfl, hb10⟩
  have s10 := (s9.step hb10).alloc (.cells #[.int .i64 ly.1, .int .i64 hy.1, .bool ly.2, .bool hy.2] 28)
  have x10 := (x9.below hb10 x9.lt).alloc (.cells #[.int .i64 ly.1, .int .i64 hy.1, .bool ly.2, .bool hy.2] 28)
  have y10 := (y9.below hb10 y9.lt).alloc (.cells #[.int .i64 ly.1, .int .i64 hy.1, .bool ly.2, .bool hy.2] 28)
  have z10 := Bk.new w10 28 #[.int .i64 ly.1, .int .i64 hy.1, .bool ly.2, .bool hy.2]
  go_wp2_with fail
  refine (alive_any _).mono ?_
  rintro e w11 ⟨rfl, hb11⟩
  have s11 := s10.step hb11
  go_wp2_with fail
  go_ret
  exact ⟨rfl, s11.bl⟩

set_option maxRecDepth 100000 in
set_option maxHeartbeats 2000000 in
include hR hn hR2 hn2 in
theorem more_yes_ff (hf : Ln.fewF N bs.length 8 14 = true) (hf2 : Ln.fewF M cs.length 8 14 = true) (JN KN : Int) (J K : List Ln.Bd) (HJ : Hid (JoC N bs M cs JN J 0)) (HK : Hid (JoC M cs N bs KN K 0)) (H1 : Hid (CoC true N bs)) (H2 : Hid (CoC true JN J)) (H3 : Hid (CoC true KN K)) (lx1 hx1 ly1 hy1 : Int) (hy2 : Bool) (ly2 : Bool) (B1 : Hid (BtC (lx1, false) (hx1, false) 0 N bs a b)) (B2 : Hid (BtC (ly1, ly2) (hy1, hy2) 0 JN J a b)) (B3 : Hid (BtC (ly1, ly2) (hy1, hy2) 0 KN K a b)) : Calls Try.prog 13 #[.agg #[.int .i64 N, .slice A bs.length c], .agg #[.int .i64 M, .slice A2 cs.length c2], .int .i64 a, .int .i64 b] w fun e w' => e = .returned (.bool true) ∧ Below w.heap.size w w' := by
  obtain ⟨s0, t0⟩ := two_sys N A c bs M A2 c2 cs w hR hR2
  have HF := Lib.hid hf
  have HF2 := Lib.hid hf2
  clear hf hf2
  go_enter Try.func13, Try.ntmps13
  go_wp2_with fail
  refine (few_law N A bs.length c hn _).mono ?_
  rw [HF.out]
  rintro e w1 ⟨rfl, hb1⟩
  have s1 := s0.step hb1
  have t1 := t0.step hb1
  obtain ⟨c0, c1, cl⟩ := s1.cells
  obtain ⟨d0, d1, dl⟩ := t1.cells
  go_wp2_with fail
  refine (few_law M A2 cs.length c2 hn2 _).mono ?_
  rw [HF2.out]
  rintro e w2 ⟨rfl, hb2⟩
  have s2 := s1.step hb2
  have t2 := t1.step hb2
  clear c0 c1 cl d0 d1 dl
  obtain ⟨c0, c1, cl⟩ := s2.cells
  obtain ⟨d0, d1, dl⟩ := t2.cells
  go_wp2_with fail
  refine (HJ.out _ _ _ _ _ s2.rd t2.rd).mono ?_
  rintro e w3 ⟨Aj, cj, rfl, hj, hb3⟩
  have s3 := (s2.step hb3).alloc (.cells #[.int .i64 JN, .slice Aj J.length cj] 24)
  have t3 := (t2.step hb3).alloc (.cells #[.int .i64 JN, .slice Aj J.length cj] 24)
  have j3 := Sy.new (w := w3) JN cj hj
  clear c0 c1 cl d0 d1 dl
  obtain ⟨c0, c1, cl⟩ := s3.cells
  obtain ⟨d0, d1, dl⟩ := t3.cells
  go_wp2_with fail
  obtain ⟨v3, hv3⟩ : ∃ v3, w3.alloc (.cells #[.int .i64 JN, .slice Aj J.length cj] 24) = v3 := ⟨_, rfl⟩
  obtain ⟨jb, hjb⟩ : ∃ jb, w3.heap.size = jb := ⟨_, rfl⟩
  rw [hv3] at s3 t3 j3 ⊢
  rw [hjb] at j3 ⊢
  clear hv3 hjb c0 c1 cl d0 d1 dl hj
  refine (HK.out _ _ _ _ _ t3.rd s3.rd).mono ?_
  rintro e w4 ⟨Ak, ck, rfl, hk, hb4⟩
  have s4 := (s3.step hb4).alloc (.cells #[.int .i64 KN, .slice Ak K.length ck] 24)
  have t4 := (t3.step hb4).alloc (.cells #[.int .i64 KN, .slice Ak K.length ck] 24)
  have j4 := (j3.from.step hb4).alloc (.cells #[.int .i64 KN, .slice Ak K.length ck] 24)
  have k4 := Sy.new (w := w4) KN ck hk
  obtain ⟨c0, c1, cl⟩ := s4.cells
  obtain ⟨d0, d1, dl⟩ := t4.cells
  go_wp2_with fail
  obtain ⟨v4, hv4⟩ : ∃ v4, w4.alloc (.cells #[.int .i64 KN, .slice Ak K.length ck] 24) = v4 := ⟨_, rfl⟩
  obtain ⟨kb, hkb⟩ : ∃ kb, w4.heap.size = kb := ⟨_, rfl⟩
  rw [hv4] at s4 t4 j4 k4 ⊢
  rw [hkb] at k4 ⊢
  clear hv4 hkb c0 c1 cl d0 d1 dl hk
  refine (H1.out _ _ _ s4.rd).mono ?_
  rintro e w5 ⟨rfl, hb5⟩
  have s5 := s4.step hb5
  have j5 := j4.step hb5
  have k5 := k4.from.step hb5
  obtain ⟨c0, c1, cl⟩ := j5.cells
  go_wp2_with fail
  refine (H2.out _ _ _ j5.rd).mono ?_
  rintro e w6 ⟨rfl, hb6⟩
  have s6 := s5.step hb6
  have j6 := j5.step hb6
  have k6 := k5.step hb6
  clear c0 c1 cl
  obtain ⟨c0, c1, cl⟩ := k6.cells
  go_wp2_with fail
  refine (H3.out _ _ _ k6.rd).mono ?_
  rintro e w7 ⟨rfl, hb7⟩
  have s7 := s6.step hb7
  have j7 := j6.step hb7
  have k7 := k6.step hb7
  clear c0 c1 cl
  obtain ⟨c0, c1, cl⟩ := s7.cells
  go_wp2_with fail
  refine (B1.out _ _ _ s7.rd).mono ?_
  rintro e w8 ⟨rfl, hb8⟩
  have s8 := (s7.step hb8).alloc (.cells #[.int .i64 lx1, .int .i64 hx1, .bool false, .bool false] 28)
  have j8 := (j7.step hb8).alloc (.cells #[.int .i64 lx1, .int .i64 hx1, .bool false, .bool false] 28)
  have k8 := (k7.step hb8).alloc (.cells #[.int .i64 lx1, .int .i64 hx1, .bool false, .bool false] 28)
  have x8 := Bk.new w8 28 #[.int .i64 lx1, .int .i64 hx1, .bool false, .bool false]
  clear c0 c1 cl
  obtain ⟨c0, c1, cl⟩ := j8.cells
  go_wp2_with fail
  obtain ⟨v8, hv8⟩ : ∃ v8, w8.alloc (.cells #[.int .i64 lx1, .int .i64 hx1, .bool false, .bool false] 28) = v8 := ⟨_, rfl⟩
  obtain ⟨xb, hxb⟩ : ∃ xb, w8.heap.size = xb := ⟨_, rfl⟩
  rw [hv8] at s8 j8 k8 x8 ⊢
  rw [hxb] at x8 ⊢
  clear hv8 hxb c0 c1 cl
  refine (B2.out _ _ _ j8.rd).mono ?_
  rintro e w9 ⟨rfl, hb9⟩
  have s9 := (s8.step hb9).alloc (.cells #[.int .i64 ly1, .int .i64 hy1, .bool ly2, .bool hy2] 28)
  have k9 := (k8.step hb9).alloc (.cells #[.int .i64 ly1, .int .i64 hy1, .bool ly2, .bool hy2] 28)
  have x9 := (x8.below hb9 x8.lt).alloc (.cells #[.int .i64 ly1, .int .i64 hy1, .bool ly2, .bool hy2] 28)
  have y9 := Bk.new w9 28 #[.int .i64 ly1, .int .i64 hy1, .bool ly2, .bool hy2]
  obtain ⟨c0, c1, cl⟩ := k9.cells
  go_wp2_with fail
  obtain ⟨v9, hv9⟩ : ∃ v9, w9.alloc (.cells #[.int .i64 ly1, .int .i64 hy1, .bool ly2, .bool hy2] 28) = v9 := ⟨_, rfl⟩
  obtain ⟨yb, hyb⟩ : ∃ yb, w9.heap.size = yb := ⟨_, rfl⟩
  rw [hv9] at s9 k9 x9 y9 ⊢
  rw [hyb] at y9 ⊢
  clear hv9 hyb c0 c1 cl
  refine (B3.out _ _ _ k9.rd).mono ?_
  rintro e w10 ⟨rfl, hb10⟩
  have s10 := (s9.step hb10).alloc (.cells #[.int .i64 ly1, .int .i64 hy1, .bool ly2, .bool hy2] 28)
  have x10 := (x9.below hb10 x9.lt).alloc (.cells #[.int .i64 ly1, .int .i64 hy1, .bool ly2, .bool hy2] 28)
  have y10 := (y9.below hb10 y9.lt).alloc (.cells #[.int .i64 ly1, .int .i64 hy1, .bool ly2, .bool hy2] 28)
  have z10 := Bk.new w10 28 #[.int .i64 ly1, .int .i64 hy1, .bool ly2, .bool hy2]
  have e0 := x10.cell 0
  have e1 := x10.cell 1
  have e2 := x10.cell 2
  have e3 := x10.cell 3
  have el := x10.lt
  have f0 := y10.cell 0
  have f1 := y10.cell 1
  have f2 := y10.cell 2
  have f3 := y10.cell 3
  have fl := y10.lt
  simp only [List.getElem?_toArray, List.getElem?_cons_zero, List.getElem?_cons_succ] at e0 e1 e2 e3 f0 f1 f2 f3
  go_wp2_with fail
  obtain ⟨v10, hv10⟩ : ∃ v10, w10.alloc (.cells #[.int .i64 ly1, .int .i64 hy1, .bool ly2, .bool hy2] 28) = v10 := ⟨_, rfl⟩
  obtain ⟨zb, hzb⟩ : ∃ zb, w10.heap.size = zb := ⟨_, rfl⟩
  rw [hv10] at s10 y10 z10 ⊢
  rw [hzb] at z10 ⊢
  clear hv10 hzb e0 e1 e2 e3 el f0 f1 f2 f3 fl
  refine (alive_any _).mono ?_
  rintro e w11 ⟨rfl, hb11⟩
  have s11 := s10.step hb11
  have y11 := y10.below hb11 y10.lt
  have z11 := z10.below hb11 z10.lt
  have f0 := y11.cell 0
  have f1 := y11.cell 1
  have f2 := y11.cell 2
  have f3 := y11.cell 3
  have fl := y11.lt
  have g0 := z11.cell 0
  have g1 := z11.cell 1
  have g2 := z11.cell 2
  have g3 := z11.cell 3
  have gl := z11.lt
  simp only [List.getElem?_toArray, List.getElem?_cons_zero, List.getElem?_cons_succ] at f0 f1 f2 f3 g0 g1 g2 g3
  go_wp2_with fail
  go_ret
  exact ⟨rfl, s11.bl⟩

set_option maxRecDepth 100000 in
set_option maxHeartbeats 2000000 in
include hR hn hR2 hn2 in
theorem more_yes_ft (hf : Ln.fewF N bs.length 8 14 = true) (hf2 : Ln.fewF M cs.length 8 14 = true) (JN KN : Int) (J K : List Ln.Bd) (HJ : Hid (JoC N bs M cs JN J 0)) (HK : Hid (JoC M cs N bs KN K 0)) (H1 : Hid (CoC true N bs)) (H2 : Hid (CoC true JN J)) (H3 : Hid (CoC true KN K)) (lx1 hx1 ly1 hy1 : Int) (hy2 : Bool) (hl : lx1 ≤ ly1) (B1 : Hid (BtC (lx1, true) (hx1, false) 0 N bs a b)) (B2 : Hid (BtC (ly1, true) (hy1, hy2) 0 JN J a b)) (B3 : Hid (BtC (ly1, true) (hy1, hy2) 0 KN K a b)) : Calls Try.prog 13 #[.agg #[.int .i64 N, .slice A bs.length c], .agg #[.int .i64 M, .slice A2 cs.length c2], .int .i64 a, .int .i64 b] w fun e w' => e = .returned (.bool true) ∧ Below w.heap.size w w' := by
  obtain ⟨s0, t0⟩ := two_sys N A c bs M A2 c2 cs w hR hR2
  have HF := Lib.hid hf
  have HF2 := Lib.hid hf2
  clear hf hf2
  go_enter Try.func13, Try.ntmps13
  go_wp2_with fail
  refine (few_law N A bs.length c hn _).mono ?_
  rw [HF.out]
  rintro e w1 ⟨rfl, hb1⟩
  have s1 := s0.step hb1
  have t1 := t0.step hb1
  obtain ⟨c0, c1, cl⟩ := s1.cells
  obtain ⟨d0, d1, dl⟩ := t1.cells
  go_wp2_with fail
  refine (few_law M A2 cs.length c2 hn2 _).mono ?_
  rw [HF2.out]
  rintro e w2 ⟨rfl, hb2⟩
  have s2 := s1.step hb2
  have t2 := t1.step hb2
  clear c0 c1 cl d0 d1 dl
  obtain ⟨c0, c1, cl⟩ := s2.cells
  obtain ⟨d0, d1, dl⟩ := t2.cells
  go_wp2_with fail
  refine (HJ.out _ _ _ _ _ s2.rd t2.rd).mono ?_
  rintro e w3 ⟨Aj, cj, rfl, hj, hb3⟩
  have s3 := (s2.step hb3).alloc (.cells #[.int .i64 JN, .slice Aj J.length cj] 24)
  have t3 := (t2.step hb3).alloc (.cells #[.int .i64 JN, .slice Aj J.length cj] 24)
  have j3 := Sy.new (w := w3) JN cj hj
  clear c0 c1 cl d0 d1 dl
  obtain ⟨c0, c1, cl⟩ := s3.cells
  obtain ⟨d0, d1, dl⟩ := t3.cells
  go_wp2_with fail
  obtain ⟨v3, hv3⟩ : ∃ v3, w3.alloc (.cells #[.int .i64 JN, .slice Aj J.length cj] 24) = v3 := ⟨_, rfl⟩
  obtain ⟨jb, hjb⟩ : ∃ jb, w3.heap.size = jb := ⟨_, rfl⟩
  rw [hv3] at s3 t3 j3 ⊢
  rw [hjb] at j3 ⊢
  clear hv3 hjb c0 c1 cl d0 d1 dl hj
  refine (HK.out _ _ _ _ _ t3.rd s3.rd).mono ?_
  rintro e w4 ⟨Ak, ck, rfl, hk, hb4⟩
  have s4 := (s3.step hb4).alloc (.cells #[.int .i64 KN, .slice Ak K.length ck] 24)
  have t4 := (t3.step hb4).alloc (.cells #[.int .i64 KN, .slice Ak K.length ck] 24)
  have j4 := (j3.from.step hb4).alloc (.cells #[.int .i64 KN, .slice Ak K.length ck] 24)
  have k4 := Sy.new (w := w4) KN ck hk
  obtain ⟨c0, c1, cl⟩ := s4.cells
  obtain ⟨d0, d1, dl⟩ := t4.cells
  go_wp2_with fail
  obtain ⟨v4, hv4⟩ : ∃ v4, w4.alloc (.cells #[.int .i64 KN, .slice Ak K.length ck] 24) = v4 := ⟨_, rfl⟩
  obtain ⟨kb, hkb⟩ : ∃ kb, w4.heap.size = kb := ⟨_, rfl⟩
  rw [hv4] at s4 t4 j4 k4 ⊢
  rw [hkb] at k4 ⊢
  clear hv4 hkb c0 c1 cl d0 d1 dl hk
  refine (H1.out _ _ _ s4.rd).mono ?_
  rintro e w5 ⟨rfl, hb5⟩
  have s5 := s4.step hb5
  have j5 := j4.step hb5
  have k5 := k4.from.step hb5
  obtain ⟨c0, c1, cl⟩ := j5.cells
  go_wp2_with fail
  refine (H2.out _ _ _ j5.rd).mono ?_
  rintro e w6 ⟨rfl, hb6⟩
  have s6 := s5.step hb6
  have j6 := j5.step hb6
  have k6 := k5.step hb6
  clear c0 c1 cl
  obtain ⟨c0, c1, cl⟩ := k6.cells
  go_wp2_with fail
  refine (H3.out _ _ _ k6.rd).mono ?_
  rintro e w7 ⟨rfl, hb7⟩
  have s7 := s6.step hb7
  have j7 := j6.step hb7
  have k7 := k6.step hb7
  clear c0 c1 cl
  obtain ⟨c0, c1, cl⟩ := s7.cells
  go_wp2_with fail
  refine (B1.out _ _ _ s7.rd).mono ?_
  rintro e w8 ⟨rfl, hb8⟩
  have s8 := (s7.step hb8).alloc (.cells #[.int .i64 lx1, .int .i64 hx1, .bool true, .bool false] 28)
  have j8 := (j7.step hb8).alloc (.cells #[.int .i64 lx1, .int .i64 hx1, .bool true, .bool false] 28)
  have k8 := (k7.step hb8).alloc (.cells #[.int .i64 lx1, .int .i64 hx1, .bool true, .bool false] 28)
  have x8 := Bk.new w8 28 #[.int .i64 lx1, .int .i64 hx1, .bool true, .bool false]
  clear c0 c1 cl
  obtain ⟨c0, c1, cl⟩ := j8.cells
  go_wp2_with fail
  obtain ⟨v8, hv8⟩ : ∃ v8, w8.alloc (.cells #[.int .i64 lx1, .int .i64 hx1, .bool true, .bool false] 28) = v8 := ⟨_, rfl⟩
  obtain ⟨xb, hxb⟩ : ∃ xb, w8.heap.size = xb := ⟨_, rfl⟩
  rw [hv8] at s8 j8 k8 x8 ⊢
  rw [hxb] at x8 ⊢
  clear hv8 hxb c0 c1 cl
  refine (B2.out _ _ _ j8.rd).mono ?_
  rintro e w9 ⟨rfl, hb9⟩
  have s9 := (s8.step hb9).alloc (.cells #[.int .i64 ly1, .int .i64 hy1, .bool true, .bool hy2] 28)
  have k9 := (k8.step hb9).alloc (.cells #[.int .i64 ly1, .int .i64 hy1, .bool true, .bool hy2] 28)
  have x9 := (x8.below hb9 x8.lt).alloc (.cells #[.int .i64 ly1, .int .i64 hy1, .bool true, .bool hy2] 28)
  have y9 := Bk.new w9 28 #[.int .i64 ly1, .int .i64 hy1, .bool true, .bool hy2]
  obtain ⟨c0, c1, cl⟩ := k9.cells
  go_wp2_with fail
  obtain ⟨v9, hv9⟩ : ∃ v9, w9.alloc (.cells #[.int .i64 ly1, .int .i64 hy1, .bool true, .bool hy2] 28) = v9 := ⟨_, rfl⟩
  obtain ⟨yb, hyb⟩ : ∃ yb, w9.heap.size = yb := ⟨_, rfl⟩
  rw [hv9] at s9 k9 x9 y9 ⊢
  rw [hyb] at y9 ⊢
  clear hv9 hyb c0 c1 cl
  refine (B3.out _ _ _ k9.rd).mono ?_
  rintro e w10 ⟨rfl, hb10⟩
  have s10 := (s9.step hb10).alloc (.cells #[.int .i64 ly1, .int .i64 hy1, .bool true, .bool hy2] 28)
  have x10 := (x9.below hb10 x9.lt).alloc (.cells #[.int .i64 ly1, .int .i64 hy1, .bool true, .bool hy2] 28)
  have y10 := (y9.below hb10 y9.lt).alloc (.cells #[.int .i64 ly1, .int .i64 hy1, .bool true, .bool hy2] 28)
  have z10 := Bk.new w10 28 #[.int .i64 ly1, .int .i64 hy1, .bool true, .bool hy2]
  have e0 := x10.cell 0
  have e1 := x10.cell 1
  have e2 := x10.cell 2
  have e3 := x10.cell 3
  have el := x10.lt
  have f0 := y10.cell 0
  have f1 := y10.cell 1
  have f2 := y10.cell 2
  have f3 := y10.cell 3
  have fl := y10.lt
  simp only [List.getElem?_toArray, List.getElem?_cons_zero, List.getElem?_cons_succ] at e0 e1 e2 e3 f0 f1 f2 f3
  go_wp2_with fail
  obtain ⟨v10, hv10⟩ : ∃ v10, w10.alloc (.cells #[.int .i64 ly1, .int .i64 hy1, .bool true, .bool hy2] 28) = v10 := ⟨_, rfl⟩
  obtain ⟨zb, hzb⟩ : ∃ zb, w10.heap.size = zb := ⟨_, rfl⟩
  rw [hv10] at s10 y10 z10 ⊢
  rw [hzb] at z10 ⊢
  clear hv10 hzb e0 e1 e2 e3 el f0 f1 f2 f3 fl
  refine (alive_any _).mono ?_
  rintro e w11 ⟨rfl, hb11⟩
  have s11 := s10.step hb11
  have y11 := y10.below hb11 y10.lt
  have z11 := z10.below hb11 z10.lt
  have f0 := y11.cell 0
  have f1 := y11.cell 1
  have f2 := y11.cell 2
  have f3 := y11.cell 3
  have fl := y11.lt
  have g0 := z11.cell 0
  have g1 := z11.cell 1
  have g2 := z11.cell 2
  have g3 := z11.cell 3
  have gl := z11.lt
  simp only [List.getElem?_toArray, List.getElem?_cons_zero, List.getElem?_cons_succ] at f0 f1 f2 f3 g0 g1 g2 g3
  go_wp2_with fail
  go_ret
  exact ⟨rfl, s11.bl⟩

set_option maxRecDepth 100000 in
set_option maxHeartbeats 2000000 in
include hR hn hR2 hn2 in
theorem more_yes_tf (hf : Ln.fewF N bs.length 8 14 = true) (hf2 : Ln.fewF M cs.length 8 14 = true) (JN KN : Int) (J K : List Ln.Bd) (HJ : Hid (JoC N bs M cs JN J 0)) (HK : Hid (JoC M cs N bs KN K 0)) (H1 : Hid (CoC true N bs)) (H2 : Hid (CoC true JN J)) (H3 : Hid (CoC true KN K)) (lx1 hx1 ly1 hy1 : Int) (ly2 : Bool) (hh : hy1 ≤ hx1) (B1 : Hid (BtC (lx1, false) (hx1, true) 0 N bs a b)) (B2 : Hid (BtC (ly1, ly2) (hy1, true) 0 JN J a b)) (B3 : Hid (BtC (ly1, ly2) (hy1, true) 0 KN K a b)) : Calls Try.prog 13 #[.agg #[.int .i64 N, .slice A bs.length c], .agg #[.int .i64 M, .slice A2 cs.length c2], .int .i64 a, .int .i64 b] w fun e w' => e = .returned (.bool true) ∧ Below w.heap.size w w' := by
  obtain ⟨s0, t0⟩ := two_sys N A c bs M A2 c2 cs w hR hR2
  have HF := Lib.hid hf
  have HF2 := Lib.hid hf2
  clear hf hf2
  go_enter Try.func13, Try.ntmps13
  go_wp2_with fail
  refine (few_law N A bs.length c hn _).mono ?_
  rw [HF.out]
  rintro e w1 ⟨rfl, hb1⟩
  have s1 := s0.step hb1
  have t1 := t0.step hb1
  obtain ⟨c0, c1, cl⟩ := s1.cells
  obtain ⟨d0, d1, dl⟩ := t1.cells
  go_wp2_with fail
  refine (few_law M A2 cs.length c2 hn2 _).mono ?_
  rw [HF2.out]
  rintro e w2 ⟨rfl, hb2⟩
  have s2 := s1.step hb2
  have t2 := t1.step hb2
  clear c0 c1 cl d0 d1 dl
  obtain ⟨c0, c1, cl⟩ := s2.cells
  obtain ⟨d0, d1, dl⟩ := t2.cells
  go_wp2_with fail
  refine (HJ.out _ _ _ _ _ s2.rd t2.rd).mono ?_
  rintro e w3 ⟨Aj, cj, rfl, hj, hb3⟩
  have s3 := (s2.step hb3).alloc (.cells #[.int .i64 JN, .slice Aj J.length cj] 24)
  have t3 := (t2.step hb3).alloc (.cells #[.int .i64 JN, .slice Aj J.length cj] 24)
  have j3 := Sy.new (w := w3) JN cj hj
  clear c0 c1 cl d0 d1 dl
  obtain ⟨c0, c1, cl⟩ := s3.cells
  obtain ⟨d0, d1, dl⟩ := t3.cells
  go_wp2_with fail
  obtain ⟨v3, hv3⟩ : ∃ v3, w3.alloc (.cells #[.int .i64 JN, .slice Aj J.length cj] 24) = v3 := ⟨_, rfl⟩
  obtain ⟨jb, hjb⟩ : ∃ jb, w3.heap.size = jb := ⟨_, rfl⟩
  rw [hv3] at s3 t3 j3 ⊢
  rw [hjb] at j3 ⊢
  clear hv3 hjb c0 c1 cl d0 d1 dl hj
  refine (HK.out _ _ _ _ _ t3.rd s3.rd).mono ?_
  rintro e w4 ⟨Ak, ck, rfl, hk, hb4⟩
  have s4 := (s3.step hb4).alloc (.cells #[.int .i64 KN, .slice Ak K.length ck] 24)
  have t4 := (t3.step hb4).alloc (.cells #[.int .i64 KN, .slice Ak K.length ck] 24)
  have j4 := (j3.from.step hb4).alloc (.cells #[.int .i64 KN, .slice Ak K.length ck] 24)
  have k4 := Sy.new (w := w4) KN ck hk
  obtain ⟨c0, c1, cl⟩ := s4.cells
  obtain ⟨d0, d1, dl⟩ := t4.cells
  go_wp2_with fail
  obtain ⟨v4, hv4⟩ : ∃ v4, w4.alloc (.cells #[.int .i64 KN, .slice Ak K.length ck] 24) = v4 := ⟨_, rfl⟩
  obtain ⟨kb, hkb⟩ : ∃ kb, w4.heap.size = kb := ⟨_, rfl⟩
  rw [hv4] at s4 t4 j4 k4 ⊢
  rw [hkb] at k4 ⊢
  clear hv4 hkb c0 c1 cl d0 d1 dl hk
  refine (H1.out _ _ _ s4.rd).mono ?_
  rintro e w5 ⟨rfl, hb5⟩
  have s5 := s4.step hb5
  have j5 := j4.step hb5
  have k5 := k4.from.step hb5
  obtain ⟨c0, c1, cl⟩ := j5.cells
  go_wp2_with fail
  refine (H2.out _ _ _ j5.rd).mono ?_
  rintro e w6 ⟨rfl, hb6⟩
  have s6 := s5.step hb6
  have j6 := j5.step hb6
  have k6 := k5.step hb6
  clear c0 c1 cl
  obtain ⟨c0, c1, cl⟩ := k6.cells
  go_wp2_with fail
  refine (H3.out _ _ _ k6.rd).mono ?_
  rintro e w7 ⟨rfl, hb7⟩
  have s7 := s6.step hb7
  have j7 := j6.step hb7
  have k7 := k6.step hb7
  clear c0 c1 cl
  obtain ⟨c0, c1, cl⟩ := s7.cells
  go_wp2_with fail
  refine (B1.out _ _ _ s7.rd).mono ?_
  rintro e w8 ⟨rfl, hb8⟩
  have s8 := (s7.step hb8).alloc (.cells #[.int .i64 lx1, .int .i64 hx1, .bool false, .bool true] 28)
  have j8 := (j7.step hb8).alloc (.cells #[.int .i64 lx1, .int .i64 hx1, .bool false, .bool true] 28)
  have k8 := (k7.step hb8).alloc (.cells #[.int .i64 lx1, .int .i64 hx1, .bool false, .bool true] 28)
  have x8 := Bk.new w8 28 #[.int .i64 lx1, .int .i64 hx1, .bool false, .bool true]
  clear c0 c1 cl
  obtain ⟨c0, c1, cl⟩ := j8.cells
  go_wp2_with fail
  obtain ⟨v8, hv8⟩ : ∃ v8, w8.alloc (.cells #[.int .i64 lx1, .int .i64 hx1, .bool false, .bool true] 28) = v8 := ⟨_, rfl⟩
  obtain ⟨xb, hxb⟩ : ∃ xb, w8.heap.size = xb := ⟨_, rfl⟩
  rw [hv8] at s8 j8 k8 x8 ⊢
  rw [hxb] at x8 ⊢
  clear hv8 hxb c0 c1 cl
  refine (B2.out _ _ _ j8.rd).mono ?_
  rintro e w9 ⟨rfl, hb9⟩
  have s9 := (s8.step hb9).alloc (.cells #[.int .i64 ly1, .int .i64 hy1, .bool ly2, .bool true] 28)
  have k9 := (k8.step hb9).alloc (.cells #[.int .i64 ly1, .int .i64 hy1, .bool ly2, .bool true] 28)
  have x9 := (x8.below hb9 x8.lt).alloc (.cells #[.int .i64 ly1, .int .i64 hy1, .bool ly2, .bool true] 28)
  have y9 := Bk.new w9 28 #[.int .i64 ly1, .int .i64 hy1, .bool ly2, .bool true]
  obtain ⟨c0, c1, cl⟩ := k9.cells
  go_wp2_with fail
  obtain ⟨v9, hv9⟩ : ∃ v9, w9.alloc (.cells #[.int .i64 ly1, .int .i64 hy1, .bool ly2, .bool true] 28) = v9 := ⟨_, rfl⟩
  obtain ⟨yb, hyb⟩ : ∃ yb, w9.heap.size = yb := ⟨_, rfl⟩
  rw [hv9] at s9 k9 x9 y9 ⊢
  rw [hyb] at y9 ⊢
  clear hv9 hyb c0 c1 cl
  refine (B3.out _ _ _ k9.rd).mono ?_
  rintro e w10 ⟨rfl, hb10⟩
  have s10 := (s9.step hb10).alloc (.cells #[.int .i64 ly1, .int .i64 hy1, .bool ly2, .bool true] 28)
  have x10 := (x9.below hb10 x9.lt).alloc (.cells #[.int .i64 ly1, .int .i64 hy1, .bool ly2, .bool true] 28)
  have y10 := (y9.below hb10 y9.lt).alloc (.cells #[.int .i64 ly1, .int .i64 hy1, .bool ly2, .bool true] 28)
  have z10 := Bk.new w10 28 #[.int .i64 ly1, .int .i64 hy1, .bool ly2, .bool true]
  have e0 := x10.cell 0
  have e1 := x10.cell 1
  have e2 := x10.cell 2
  have e3 := x10.cell 3
  have el := x10.lt
  have f0 := y10.cell 0
  have f1 := y10.cell 1
  have f2 := y10.cell 2
  have f3 := y10.cell 3
  have fl := y10.lt
  simp only [List.getElem?_toArray, List.getElem?_cons_zero, List.getElem?_cons_succ] at e0 e1 e2 e3 f0 f1 f2 f3
  go_wp2_with fail
  obtain ⟨v10, hv10⟩ : ∃ v10, w10.alloc (.cells #[.int .i64 ly1, .int .i64 hy1, .bool ly2, .bool true] 28) = v10 := ⟨_, rfl⟩
  obtain ⟨zb, hzb⟩ : ∃ zb, w10.heap.size = zb := ⟨_, rfl⟩
  rw [hv10] at s10 y10 z10 ⊢
  rw [hzb] at z10 ⊢
  clear hv10 hzb e0 e1 e2 e3 el f0 f1 f2 f3 fl
  refine (alive_any _).mono ?_
  rintro e w11 ⟨rfl, hb11⟩
  have s11 := s10.step hb11
  have y11 := y10.below hb11 y10.lt
  have z11 := z10.below hb11 z10.lt
  have f0 := y11.cell 0
  have f1 := y11.cell 1
  have f2 := y11.cell 2
  have f3 := y11.cell 3
  have fl := y11.lt
  have g0 := z11.cell 0
  have g1 := z11.cell 1
  have g2 := z11.cell 2
  have g3 := z11.cell 3
  have gl := z11.lt
  simp only [List.getElem?_toArray, List.getElem?_cons_zero, List.getElem?_cons_succ] at f0 f1 f2 f3 g0 g1 g2 g3
  go_wp2_with fail
  go_ret
  exact ⟨rfl, s11.bl⟩

set_option maxRecDepth 100000 in
set_option maxHeartbeats 2000000 in
include hR hn hR2 hn2 in
theorem more_yes_tt (hf : Ln.fewF N bs.length 8 14 = true) (hf2 : Ln.fewF M cs.length 8 14 = true) (JN KN : Int) (J K : List Ln.Bd) (HJ : Hid (JoC N bs M cs JN J 0)) (HK : Hid (JoC M cs N bs KN K 0)) (H1 : Hid (CoC true N bs)) (H2 : Hid (CoC true JN J)) (H3 : Hid (CoC true KN K)) (lx1 hx1 ly1 hy1 : Int) (hh : hy1 ≤ hx1) (hl : lx1 ≤ ly1) (B1 : Hid (BtC (lx1, true) (hx1, true) 0 N bs a b)) (B2 : Hid (BtC (ly1, true) (hy1, true) 0 JN J a b)) (B3 : Hid (BtC (ly1, true) (hy1, true) 0 KN K a b)) : Calls Try.prog 13 #[.agg #[.int .i64 N, .slice A bs.length c], .agg #[.int .i64 M, .slice A2 cs.length c2], .int .i64 a, .int .i64 b] w fun e w' => e = .returned (.bool true) ∧ Below w.heap.size w w' := by
  obtain ⟨s0, t0⟩ := two_sys N A c bs M A2 c2 cs w hR hR2
  have HF := Lib.hid hf
  have HF2 := Lib.hid hf2
  clear hf hf2
  go_enter Try.func13, Try.ntmps13
  go_wp2_with fail
  refine (few_law N A bs.length c hn _).mono ?_
  rw [HF.out]
  rintro e w1 ⟨rfl, hb1⟩
  have s1 := s0.step hb1
  have t1 := t0.step hb1
  obtain ⟨c0, c1, cl⟩ := s1.cells
  obtain ⟨d0, d1, dl⟩ := t1.cells
  go_wp2_with fail
  refine (few_law M A2 cs.length c2 hn2 _).mono ?_
  rw [HF2.out]
  rintro e w2 ⟨rfl, hb2⟩
  have s2 := s1.step hb2
  have t2 := t1.step hb2
  clear c0 c1 cl d0 d1 dl
  obtain ⟨c0, c1, cl⟩ := s2.cells
  obtain ⟨d0, d1, dl⟩ := t2.cells
  go_wp2_with fail
  refine (HJ.out _ _ _ _ _ s2.rd t2.rd).mono ?_
  rintro e w3 ⟨Aj, cj, rfl, hj, hb3⟩
  have s3 := (s2.step hb3).alloc (.cells #[.int .i64 JN, .slice Aj J.length cj] 24)
  have t3 := (t2.step hb3).alloc (.cells #[.int .i64 JN, .slice Aj J.length cj] 24)
  have j3 := Sy.new (w := w3) JN cj hj
  clear c0 c1 cl d0 d1 dl
  obtain ⟨c0, c1, cl⟩ := s3.cells
  obtain ⟨d0, d1, dl⟩ := t3.cells
  go_wp2_with fail
  obtain ⟨v3, hv3⟩ : ∃ v3, w3.alloc (.cells #[.int .i64 JN, .slice Aj J.length cj] 24) = v3 := ⟨_, rfl⟩
  obtain ⟨jb, hjb⟩ : ∃ jb, w3.heap.size = jb := ⟨_, rfl⟩
  rw [hv3] at s3 t3 j3 ⊢
  rw [hjb] at j3 ⊢
  clear hv3 hjb c0 c1 cl d0 d1 dl hj
  refine (HK.out _ _ _ _ _ t3.rd s3.rd).mono ?_
  rintro e w4 ⟨Ak, ck, rfl, hk, hb4⟩
  have s4 := (s3.step hb4).alloc (.cells #[.int .i64 KN, .slice Ak K.length ck] 24)
  have t4 := (t3.step hb4).alloc (.cells #[.int .i64 KN, .slice Ak K.length ck] 24)
  have j4 := (j3.from.step hb4).alloc (.cells #[.int .i64 KN, .slice Ak K.length ck] 24)
  have k4 := Sy.new (w := w4) KN ck hk
  obtain ⟨c0, c1, cl⟩ := s4.cells
  obtain ⟨d0, d1, dl⟩ := t4.cells
  go_wp2_with fail
  obtain ⟨v4, hv4⟩ : ∃ v4, w4.alloc (.cells #[.int .i64 KN, .slice Ak K.length ck] 24) = v4 := ⟨_, rfl⟩
  obtain ⟨kb, hkb⟩ : ∃ kb, w4.heap.size = kb := ⟨_, rfl⟩
  rw [hv4] at s4 t4 j4 k4 ⊢
  rw [hkb] at k4 ⊢
  clear hv4 hkb c0 c1 cl d0 d1 dl hk
  refine (H1.out _ _ _ s4.rd).mono ?_
  rintro e w5 ⟨rfl, hb5⟩
  have s5 := s4.step hb5
  have j5 := j4.step hb5
  have k5 := k4.from.step hb5
  obtain ⟨c0, c1, cl⟩ := j5.cells
  go_wp2_with fail
  refine (H2.out _ _ _ j5.rd).mono ?_
  rintro e w6 ⟨rfl, hb6⟩
  have s6 := s5.step hb6
  have j6 := j5.step hb6
  have k6 := k5.step hb6
  clear c0 c1 cl
  obtain ⟨c0, c1, cl⟩ := k6.cells
  go_wp2_with fail
  refine (H3.out _ _ _ k6.rd).mono ?_
  rintro e w7 ⟨rfl, hb7⟩
  have s7 := s6.step hb7
  have j7 := j6.step hb7
  have k7 := k6.step hb7
  clear c0 c1 cl
  obtain ⟨c0, c1, cl⟩ := s7.cells
  go_wp2_with fail
  refine (B1.out _ _ _ s7.rd).mono ?_
  rintro e w8 ⟨rfl, hb8⟩
  have s8 := (s7.step hb8).alloc (.cells #[.int .i64 lx1, .int .i64 hx1, .bool true, .bool true] 28)
  have j8 := (j7.step hb8).alloc (.cells #[.int .i64 lx1, .int .i64 hx1, .bool true, .bool true] 28)
  have k8 := (k7.step hb8).alloc (.cells #[.int .i64 lx1, .int .i64 hx1, .bool true, .bool true] 28)
  have x8 := Bk.new w8 28 #[.int .i64 lx1, .int .i64 hx1, .bool true, .bool true]
  clear c0 c1 cl
  obtain ⟨c0, c1, cl⟩ := j8.cells
  go_wp2_with fail
  obtain ⟨v8, hv8⟩ : ∃ v8, w8.alloc (.cells #[.int .i64 lx1, .int .i64 hx1, .bool true, .bool true] 28) = v8 := ⟨_, rfl⟩
  obtain ⟨xb, hxb⟩ : ∃ xb, w8.heap.size = xb := ⟨_, rfl⟩
  rw [hv8] at s8 j8 k8 x8 ⊢
  rw [hxb] at x8 ⊢
  clear hv8 hxb c0 c1 cl
  refine (B2.out _ _ _ j8.rd).mono ?_
  rintro e w9 ⟨rfl, hb9⟩
  have s9 := (s8.step hb9).alloc (.cells #[.int .i64 ly1, .int .i64 hy1, .bool true, .bool true] 28)
  have k9 := (k8.step hb9).alloc (.cells #[.int .i64 ly1, .int .i64 hy1, .bool true, .bool true] 28)
  have x9 := (x8.below hb9 x8.lt).alloc (.cells #[.int .i64 ly1, .int .i64 hy1, .bool true, .bool true] 28)
  have y9 := Bk.new w9 28 #[.int .i64 ly1, .int .i64 hy1, .bool true, .bool true]
  obtain ⟨c0, c1, cl⟩ := k9.cells
  go_wp2_with fail
  obtain ⟨v9, hv9⟩ : ∃ v9, w9.alloc (.cells #[.int .i64 ly1, .int .i64 hy1, .bool true, .bool true] 28) = v9 := ⟨_, rfl⟩
  obtain ⟨yb, hyb⟩ : ∃ yb, w9.heap.size = yb := ⟨_, rfl⟩
  rw [hv9] at s9 k9 x9 y9 ⊢
  rw [hyb] at y9 ⊢
  clear hv9 hyb c0 c1 cl
  refine (B3.out _ _ _ k9.rd).mono ?_
  rintro e w10 ⟨rfl, hb10⟩
  have s10 := (s9.step hb10).alloc (.cells #[.int .i64 ly1, .int .i64 hy1, .bool true, .bool true] 28)
  have x10 := (x9.below hb10 x9.lt).alloc (.cells #[.int .i64 ly1, .int .i64 hy1, .bool true, .bool true] 28)
  have y10 := (y9.below hb10 y9.lt).alloc (.cells #[.int .i64 ly1, .int .i64 hy1, .bool true, .bool true] 28)
  have z10 := Bk.new w10 28 #[.int .i64 ly1, .int .i64 hy1, .bool true, .bool true]
  have e0 := x10.cell 0
  have e1 := x10.cell 1
  have e2 := x10.cell 2
  have e3 := x10.cell 3
  have el := x10.lt
  have f0 := y10.cell 0
  have f1 := y10.cell 1
  have f2 := y10.cell 2
  have f3 := y10.cell 3
  have fl := y10.lt
  simp only [List.getElem?_toArray, List.getElem?_cons_zero, List.getElem?_cons_succ] at e0 e1 e2 e3 f0 f1 f2 f3
  go_wp2_with fail
  obtain ⟨v10, hv10⟩ : ∃ v10, w10.alloc (.cells #[.int .i64 ly1, .int .i64 hy1, .bool true, .bool true] 28) = v10 := ⟨_, rfl⟩
  obtain ⟨zb, hzb⟩ : ∃ zb, w10.heap.size = zb := ⟨_, rfl⟩
  rw [hv10] at s10 y10 z10 ⊢
  rw [hzb] at z10 ⊢
  clear hv10 hzb e0 e1 e2 e3 el f0 f1 f2 f3 fl
  refine (alive_any _).mono ?_
  rintro e w11 ⟨rfl, hb11⟩
  have s11 := s10.step hb11
  have y11 := y10.below hb11 y10.lt
  have z11 := z10.below hb11 z10.lt
  have f0 := y11.cell 0
  have f1 := y11.cell 1
  have f2 := y11.cell 2
  have f3 := y11.cell 3
  have fl := y11.lt
  have g0 := z11.cell 0
  have g1 := z11.cell 1
  have g2 := z11.cell 2
  have g3 := z11.cell 3
  have gl := z11.lt
  simp only [List.getElem?_toArray, List.getElem?_cons_zero, List.getElem?_cons_succ] at f0 f1 f2 f3 g0 g1 g2 g3
  go_wp2_with fail
  go_ret
  exact ⟨rfl, s11.bl⟩

end

theorem lineMore_any (N : Int) (A : Option Addr) (c : Nat) (bs : List Ln.Bd) (M : Int) (A2 : Option Addr) (c2 : Nat) (cs : List Ln.Bd) (a b : Int) (w : World)
    (hR : Rd w w.heap.size 4 A bs.length (bcells bs)) (hn : bs.length ≤ 9223372036854775807) (hlv : ∀ x ∈ bs, x.gone = false) (hR2 : Rd w w.heap.size 4 A2 cs.length (bcells cs)) (hn2 : cs.length ≤ 9223372036854775807) (hlv2 : ∀ x ∈ cs, x.gone = false) :
    Calls Try.prog 13 #[.agg #[.int .i64 N, .slice A bs.length c], .agg #[.int .i64 M, .slice A2 cs.length c2], .int .i64 a, .int .i64 b] w fun e w' => e = .returned (.bool true) ∧ Below w.heap.size w w' := by
  rcases hf : Ln.fewF N bs.length 8 14 with _ | _
  · exact more_early1 N A c bs M A2 c2 cs a b w hR hn hR2 hf
  · rcases hf2 : Ln.fewF M cs.length 8 14 with _ | _
    · exact more_early2 N A c bs M A2 c2 cs a b w hR hn hR2 hn2 hf hf2
    · have hl1 := Ln.fewF_len hf (by omega)
      have hl2 := Ln.fewF_len hf2 (by omega)
      have HJ : Hid (JoC N bs M cs (Ln.joinF N bs M cs).1.1 (Ln.joinF N bs M cs).1.2 (Ln.joinF N bs M cs).2) := Lib.hid fun A c A2 c2 w h1 h2 => join_any N A c bs M A2 c2 cs w h1 (by omega) h2 (by omega)
      have HK : Hid (JoC M cs N bs (Ln.joinF M cs N bs).1.1 (Ln.joinF M cs N bs).1.2 (Ln.joinF M cs N bs).2) := Lib.hid fun A c A2 c2 w h1 h2 => join_any M A c cs N A2 c2 bs w h1 (by omega) h2 (by omega)
      by_cases hz : (Ln.joinF N bs M cs).2 = 0
      · obtain ⟨k1, k2, rfl, k4, k5⟩ := Ln.joinF_zero hz
        obtain ⟨_, _, _, _, k6⟩ := Ln.joinF_zero (Ln.joinF_both.1 hz)
        rw [k5] at HJ
        rw [k6] at HK
        dsimp only at HJ HK
        have hlvj : Ln.Lv (bs ++ cs) := ⟨by simp; omega, fun x hx => (List.mem_append.1 hx).elim (hlv x) (hlv2 x)⟩
        have hlvk : Ln.Lv (cs ++ bs) := ⟨by simp; omega, fun x hx => (List.mem_append.1 hx).elim (hlv2 x) (hlv x)⟩
        have hlvb : Ln.Lv bs := ⟨by omega, hlv⟩
        obtain ⟨m1, m2, m3, m4, m5, m6, m7, m8⟩ := Ln.more_ok k1 k2 k4 a b
        have c1 : Ln.coF N bs = (Ln.consF bs N.toNat, 0) := by rw [Ln.coF, if_pos k1]
        have c2' : Ln.coF N (bs ++ cs) = (Ln.consF (bs ++ cs) N.toNat, 0) := by rw [Ln.coF, if_pos m1]
        have c3 : Ln.coF N (cs ++ bs) = (Ln.consF (bs ++ cs) N.toNat, 0) := by rw [Ln.coF, if_pos m2, m3]
        have hj1 := fun A c w h => cons_any N A c bs w h hlvb
        have hj2 := fun A c w h => cons_any N A c (bs ++ cs) w h hlvj
        have hj3 := fun A c w h => cons_any N A c (cs ++ bs) w h hlvk
        rw [c1] at hj1
        rw [c2'] at hj2
        rw [c3] at hj3
        have B1 : Hid (BtC (Ln.btF N bs a b).1 (Ln.btF N bs a b).2.1 (Ln.btF N bs a b).2.2 N bs a b) := Lib.hid fun A c w h => between_any N A c bs a b w h hlvb
        have B2 : Hid (BtC (Ln.btF N (bs ++ cs) a b).1 (Ln.btF N (bs ++ cs) a b).2.1 (Ln.btF N (bs ++ cs) a b).2.2 N (bs ++ cs) a b) := Lib.hid fun A c w h => between_any N A c (bs ++ cs) a b w h hlvj
        have B3 : Hid (BtC (Ln.btF N (bs ++ cs) a b).1 (Ln.btF N (bs ++ cs) a b).2.1 (Ln.btF N (bs ++ cs) a b).2.2 N (cs ++ bs) a b) := by
          rw [m5]
          exact Lib.hid fun A c w h => between_any N A c (cs ++ bs) a b w h hlvk
        have nine : (Ln.btF N (bs ++ cs) a b).2.2 = 0 → Ln.consF (bs ++ cs) N.toNat = true := fun h => by
          have : Ln.soundF N (bs ++ cs) [a, b] = 0 := by
            unfold Ln.btF at h
            split at h
            · assumption
            · exact h
          exact (Ln.sound_zero this).2.1
        obtain ⟨J, hJe⟩ : ∃ J, bs ++ cs = J := ⟨_, rfl⟩
        obtain ⟨K, hKe⟩ : ∃ K, cs ++ bs = K := ⟨_, rfl⟩
        rw [hJe] at HJ B2 B3 hj2 hj3 m4 m6 m7 m8 nine
        rw [hKe] at HK B3 hj3
        obtain ⟨X, hX⟩ : ∃ X, Ln.btF N bs a b = X := ⟨_, rfl⟩
        obtain ⟨Y, hY⟩ : ∃ Y, Ln.btF N J a b = Y := ⟨_, rfl⟩
        rw [hX] at B1 m6 m7 m8
        rw [hY] at B2 B3 m6 m7 m8 nine
        obtain ⟨⟨lx1, lx2⟩, ⟨hx1, hx2⟩, ex⟩ := X
        obtain ⟨⟨ly1, ly2⟩, ⟨hy1, hy2⟩, ey⟩ := Y
        dsimp only at B1 B2 B3 m6 m7 m8 nine
        by_cases hey : ey = 0
        · subst hey
          have q1 := nine rfl
          have q2 := m4 q1
          have q3 := m6 rfl
          subst q3
          rw [q2] at hj1
          rw [q1] at hj2 hj3
          have H1 : Hid (CoC true N bs) := Lib.hid hj1
          have H2 : Hid (CoC true N J) := Lib.hid hj2
          have H3 : Hid (CoC true N K) := Lib.hid hj3
          have m7 := m7 rfl
          have m8 := m8 rfl
          cases hx2 <;> cases lx2
          · exact more_yes_ff N A c bs N A2 c2 cs a b w hR hn hR2 hn2 hf hf2 N N J K HJ HK H1 H2 H3 lx1 hx1 ly1 hy1 hy2 ly2 B1 B2 B3
          · obtain ⟨rfl, g⟩ := m8 rfl
            exact more_yes_ft N A c bs N A2 c2 cs a b w hR hn hR2 hn2 hf hf2 N N J K HJ HK H1 H2 H3 lx1 hx1 ly1 hy1 hy2 g B1 B2 B3
          · obtain ⟨rfl, g⟩ := m7 rfl
            exact more_yes_tf N A c bs N A2 c2 cs a b w hR hn hR2 hn2 hf hf2 N N J K HJ HK H1 H2 H3 lx1 hx1 ly1 hy1 ly2 g B1 B2 B3
          · obtain ⟨rfl, g⟩ := m7 rfl
            obtain ⟨rfl, g2⟩ := m8 rfl
            exact more_yes_tt N A c bs N A2 c2 cs a b w hR hn hR2 hn2 hf hf2 N N J K HJ HK H1 H2 H3 lx1 hx1 ly1 hy1 g g2 B1 B2 B3
        · rcases hb2 : Ln.consF J N.toNat with _ | _
          · rw [hb2] at hj2 hj3
            have H2 : Hid (CoC false N J) := Lib.hid hj2
            have H3 : Hid (CoC false N K) := Lib.hid hj3
            rcases hb1 : Ln.consF bs N.toNat with _ | _
            · rw [hb1] at hj1
              have H1 : Hid (CoC false N bs) := Lib.hid hj1
              exact more_no_ff N A c bs N A2 c2 cs a b w hR hn hR2 hn2 hf hf2 N N J K HJ HK H1 H2 H3 (lx1, lx2) (hx1, hx2) (ly1, ly2) (hy1, hy2) ex ey hey B1 B2 B3
            · rw [hb1] at hj1
              have H1 : Hid (CoC true N bs) := Lib.hid hj1
              exact more_no_tf N A c bs N A2 c2 cs a b w hR hn hR2 hn2 hf hf2 N N J K HJ HK H1 H2 H3 (lx1, lx2) (hx1, hx2) (ly1, ly2) (hy1, hy2) ex ey hey B1 B2 B3
          · have q2 := m4 hb2
            rw [hb2] at hj2 hj3
            rw [q2] at hj1
            have H1 : Hid (CoC true N bs) := Lib.hid hj1
            have H2 : Hid (CoC true N J) := Lib.hid hj2
            have H3 : Hid (CoC true N K) := Lib.hid hj3
            exact more_no_tt N A c bs N A2 c2 cs a b w hR hn hR2 hn2 hf hf2 N N J K HJ HK H1 H2 H3 (lx1, lx2) (hx1, hx2) (ly1, ly2) (hy1, hy2) ex ey hey B1 B2 B3
      · exact more_err N A c bs M A2 c2 cs a b w hR hn hR2 hn2 hf hf2 _ _ _ _ _ _ hz (fun h => hz (Ln.joinF_both.2 h)) HJ HK

end Go.Proofs.Ytdndhfggdjphjaa
