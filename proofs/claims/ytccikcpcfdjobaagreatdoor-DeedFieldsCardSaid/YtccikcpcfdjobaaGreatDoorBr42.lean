/-
  What the claims of layer deed need of the texts DSp.
-/
import Derived.Test.YtccikcpcfdjobaaGreatDoorBr32
import Derived.Test.YtccikcpcfdjobaaGreatDoorBr41
import Derived.Test.YtccikcpcfdjobaaGreatDoorBr27
import Derived.Test.YtccikcpcfdjobaaGreatDoorBr20
import Derived.Test.YtccikcpcfdjobaaGreatDoorBr17
import Derived.Test.YtccikcpcfdjobaaGreatDoorBr36
import Derived.Test.YtccikcpcfdjobaaGreatDoorBr37
import Derived.Test.YtccikcpcfdjobaaGreatDoorBr33
import Derived.Test.YtccikcpcfdjobaaGreatDoorBz
set_option linter.unusedVariables false
set_option linter.unusedSimpArgs false
set_option maxHeartbeats 8000000
set_option maxRecDepth 100000
namespace Go.Proofs.YtccikcpcfdjobaaGreatDoor
section
open Go.RowKit
structure Sq (w : World) (v : Fv) (f : Dd.Fd) (L : List (Nat × TypeId × Array Value)) (M : List (Nat × Option Addr × Nat × List Value)) (W : World) : Prop where
 b : Below w.heap.size w W
 e : Env W
 f : FRd W W.heap.size v f
 l : ∀ x ∈ L, Bk W x.1 x.2.1 x.2.2
 m : ∀ y ∈ M, Rd W W.heap.size y.1 y.2.1 y.2.2.1 y.2.2.2
section
variable {w W W' : World} {v : Fv} {f : Dd.Fd} {L : List (Nat × TypeId × Array Value)} {M : List (Nat × Option Addr × Nat × List Value)}
theorem Sq.next (h : Sq w v f L M W) (hb : Below W.heap.size W W') : Sq w v f L M W' :=
 ⟨h.b.trans (hb.mono h.b.size), h.e.step hb, (h.f.below hb (Nat.le_refl _)).more hb.size, fun x hx => (h.l x hx).below hb (h.l x hx).lt, fun y hy => ((h.m y hy).below hb (Nat.le_refl _)).more hb.size⟩
theorem Sq.blk (h : Sq w v f L M W) {g : Nat} {t : TypeId} {cs : Array Value} (hk : Bk W g t cs) : Sq w v f ((g, t, cs) :: L) M W :=
 ⟨h.b, h.e, h.f, fun x hx => by rcases List.mem_cons.1 hx with rfl | hx; exact hk; exact h.l x hx, h.m⟩
theorem Sq.row (h : Sq w v f L M W) {n : Nat} {A : Option Addr} {k : Nat} {xs : List Value} (hk : Rd W W.heap.size n A k xs) : Sq w v f L ((n, A, k, xs) :: M) W :=
 ⟨h.b, h.e, h.f, h.l, fun y hy => by rcases List.mem_cons.1 hy with rfl | hy; exact hk; exact h.m y hy⟩
theorem Sq.new (h : Sq w v f L M W) (t : TypeId) (cs : Array Value) : Sq w v f ((W.heap.size, t, cs) :: L) M (W.alloc (.cells cs t)) :=
 (h.next ((Below.refl _ _).alloc (Nat.le_refl _) _)).blk (Bk.new _ _ _)
end
set_option maxHeartbeats 16000000 in
theorem spoken_any (w : World) (hE : Env w) : Calls Tryz.prog 8 #[] w fun e w' => e = .returned (.bool true) ∧ Below w.heap.size w w' := by
 have h1 : Calls Tryz.prog 41 #[.string ⟨#[115, 116, 97, 116, 105, 111, 110, 32, 97, 115, 104, 32, 48, 10, 115, 116, 97, 116, 105, 111, 110, 32, 111, 97, 107, 32, 56, 54, 54, 10, 108, 105, 109, 105, 116, 32, 119, 97, 108, 108, 10, 108, 105, 109, 105, 116, 32, 104, 101, 100, 103, 101, 10, 112, 97, 114, 99, 101, 108, 32, 104, 111, 109, 101, 32, 119, 97, 108, 108, 32, 97, 115, 104, 32, 111, 97, 107, 10, 118, 97, 114, 105, 97, 116, 105, 111, 110, 32, 49, 55, 48, 48, 32, 49, 48, 10]⟩] w fun e w' => ∃ v, e = .returned (.tuple #[.agg #[.slice v.a1 2 v.c1, .slice v.a2 2 v.c2, .slice v.a3 1 v.c3, .slice v.a4 1 v.c4], .agg #[.int .i64 0, .int .i64 0]]) ∧ FRd w' w'.heap.size v Dd.exF ∧ Below w.heap.size w w' := by
  have := ParseField_any Dd.exampleS (by decide) w hE
  rw [Dd.ex1] at this
  exact this
 have h2 : ∀ (v : Fv) (W : World) (h : FRd W W.heap.size v Dd.exF) (e : Env W), Calls Tryz.prog 42 #[.agg #[.slice v.a1 2 v.c1, .slice v.a2 2 v.c2, .slice v.a3 1 v.c3, .slice v.a4 1 v.c4], .string ⟨#[99, 111, 117, 114, 115, 101, 32, 119, 97, 108, 108, 32, 97, 115, 104, 32, 111, 97, 107, 32, 49, 48, 32, 99, 104, 97, 105, 110, 115, 32, 98, 121, 32, 110, 111, 114, 116, 104, 32, 53, 48, 32, 101, 97, 115, 116, 32, 103, 105, 118, 101, 32, 50, 32, 119, 101, 97, 114, 32, 48, 32, 115, 108, 97, 99, 107, 32, 49, 48, 48]⟩, .int .i64 1750] W fun e w' => e = .returned (.tuple #[.agg #[.int .u8 3, .int .i64 0, .int .i64 0, .int .i64 0, .int .i64 1, .int .i64 0, .int .i64 0, .int .i64 50, .int .i64 2, .int .i64 1000, .int .i64 1750, .int .i64 0, .int .i64 100], .int .i64 0]) ∧ Below W.heap.size W w' := fun v W h e => by
  have := ReadCall_any v Dd.exF Dd.exL 1750 W h e (by decide)
  rw [Dd.ex2] at this
  exact this
 have h3 : ∀ (v : Fv) (W : World) (h : FRd W W.heap.size v Dd.exF) (e : Env W), Calls Tryz.prog 24 #[.agg #[.slice v.a1 2 v.c1, .slice v.a2 2 v.c2, .slice v.a3 1 v.c3, .slice v.a4 1 v.c4], .agg #[.int .u8 3, .int .i64 0, .int .i64 0, .int .i64 0, .int .i64 1, .int .i64 0, .int .i64 0, .int .i64 50, .int .i64 2, .int .i64 1000, .int .i64 1750, .int .i64 0, .int .i64 100], .int .i64 7] W fun e w' => ∃ A c, e = .returned (.tuple #[.slice A 2 c, .int .i64 0]) ∧ Rd w' w'.heap.size 4 A 2 (bcells [⟨1, 2, 519, 7⟩, ⟨2, 1, -480, 7⟩]) ∧ 2 ≤ c ∧ Below W.heap.size W w' := fun v W h e => by
  have := dBounds_any v Dd.exF Dd.exC 7 W h e.sn
  rw [Dd.ex3] at this
  exact this
 have h4 : ∀ (v : Fv) (W : World) (h : FRd W W.heap.size v Dd.exF) (e : Env W), Calls Tryz.prog 42 #[.agg #[.slice v.a1 2 v.c1, .slice v.a2 2 v.c2, .slice v.a3 1 v.c3, .slice v.a4 1 v.c4], .string ⟨#[115, 116, 111, 110, 101, 32, 119, 97, 108, 108, 32, 111, 97, 107, 32, 50, 53, 48, 32, 50]⟩, .int .i64 1750] W fun e w' => e = .returned (.tuple #[.agg #[.int .u8 1, .int .i64 0, .int .i64 0, .int .i64 1, .int .i64 0, .int .i64 250, .int .i64 2, .int .i64 0, .int .i64 0, .int .i64 0, .int .i64 0, .int .i64 0, .int .i64 0], .int .i64 0]) ∧ Below W.heap.size W w' := fun v W h e => by
  have := ReadCall_any v Dd.exF Dd.exS 1750 W h e (by decide)
  rw [Dd.ex4] at this
  exact this
 have h5 : ∀ (v : Fv) (W : World) (h : FRd W W.heap.size v Dd.exF) (e : Env W), Calls Tryz.prog 24 #[.agg #[.slice v.a1 2 v.c1, .slice v.a2 2 v.c2, .slice v.a3 1 v.c3, .slice v.a4 1 v.c4], .agg #[.int .u8 1, .int .i64 0, .int .i64 0, .int .i64 1, .int .i64 0, .int .i64 250, .int .i64 2, .int .i64 0, .int .i64 0, .int .i64 0, .int .i64 0, .int .i64 0, .int .i64 0], .int .i64 7] W fun e w' => ∃ A c, e = .returned (.tuple #[.slice A 2 c, .int .i64 0]) ∧ Rd w' w'.heap.size 4 A 2 (bcells [⟨0, 2, 252, 7⟩, ⟨2, 0, -248, 7⟩]) ∧ 2 ≤ c ∧ Below W.heap.size W w' := fun v W h e => by
  have := dBounds_any v Dd.exF Dd.exD 7 W h e.sn
  rw [Dd.ex5] at this
  exact this
 have h6 : ∀ (v : Fv) (W : World) (h : FRd W W.heap.size v Dd.exF) (e : Env W), Calls Tryz.prog 33 #[.agg #[.slice v.a1 2 v.c1, .slice v.a2 2 v.c2, .slice v.a3 1 v.c3, .slice v.a4 1 v.c4]] W fun e w' => ∃ A c, e = .returned (.tuple #[.slice A 10 c, .int .i64 0]) ∧ Rd w' w'.heap.size 4 A 10 (bcells [⟨0, 1, 100000, 0⟩, ⟨1, 0, 0, 0⟩, ⟨0, 2, 100000, 0⟩, ⟨2, 0, 0, 0⟩, ⟨0, 3, 100000, 0⟩, ⟨3, 0, 0, 0⟩, ⟨0, 4, 100000, 0⟩, ⟨4, 0, 0, 0⟩, ⟨3, 1, 0, 0⟩, ⟨4, 2, 0, 0⟩]) ∧ (∀ a, A = some a → W.heap.size ≤ a.block) ∧ Below W.heap.size W w' := fun v W h e => by
  have := Nature_any v Dd.exF W h
  rw [Dd.ex6] at this
  exact this
 have h7 : ∀ (v : Fv) (A : Option Addr) (W : World) (h : FRd W W.heap.size v Dd.exF) (hY : Rd W W.heap.size 1 A 5 (icells Dd.exY)), Calls Tryz.prog 17 #[.agg #[.slice v.a1 2 v.c1, .slice v.a2 2 v.c2, .slice v.a3 1 v.c3, .slice v.a4 1 v.c4], .int .i64 0, .int .i64 120, .slice A 5 5] W fun e w' => e = .returned (.tuple #[.int .i64 0, .int .i64 0]) ∧ Below W.heap.size W w' := fun v A W h hY => by
  have := At_any v Dd.exF A 5 Dd.exY 0 120 W h hY (by decide)
  rw [Dd.ex7] at this
  exact this
 have h8 : ∀ (v : Fv) (W : World) (h : FRd W W.heap.size v Dd.exF) (e : Env W), Calls Tryz.prog 28 #[.agg #[.slice v.a1 2 v.c1, .slice v.a2 2 v.c2, .slice v.a3 1 v.c3, .slice v.a4 1 v.c4], .agg #[.int .u8 3, .int .i64 0, .int .i64 0, .int .i64 0, .int .i64 1, .int .i64 0, .int .i64 0, .int .i64 50, .int .i64 2, .int .i64 1000, .int .i64 1750, .int .i64 0, .int .i64 100]] W fun e w' => e = .returned (.tuple #[.agg #[.int .u8 3, .int .i64 0, .int .i64 0, .int .i64 1, .int .i64 0, .int .i64 0, .int .i64 0, .int .i64 230, .int .i64 2, .int .i64 1000, .int .i64 1750, .int .i64 0, .int .i64 100], .int .i64 0]) ∧ Below W.heap.size W w' := fun v W h e => by
  have := dBack_any v Dd.exF Dd.exC W h e.sn
  rw [Dd.ex8] at this
  exact this
 have h9 : ∀ (v : Fv) (W : World) (h : FRd W W.heap.size v Dd.exF) (e : Env W), Calls Tryz.prog 43 #[.agg #[.slice v.a1 2 v.c1, .slice v.a2 2 v.c2, .slice v.a3 1 v.c3, .slice v.a4 1 v.c4], .string ⟨#[115, 116, 111, 110, 101, 32, 119, 97, 108, 108, 32, 97, 115, 104, 32, 49, 32, 48]⟩] W fun e w' => PdR W ([], (4, 1)) e w' := fun v W h e => by
  have := ParseDeeds_any v Dd.exF Dd.exT (by decide) W h e
  rw [Dd.ex9] at this
  exact this
 have h10 : ∀ (v : Fv) (W : World) (h : FRd W W.heap.size v Dd.exF) (e : Env W), Calls Tryz.prog 39 #[.agg #[.slice v.a1 2 v.c1, .slice v.a2 2 v.c2, .slice v.a3 1 v.c3, .slice v.a4 1 v.c4]] W fun e w' => e = .returned (.int .i64 5) ∧ Below W.heap.size W w' := fun v W h e => by
  have := Points_any v Dd.exF W h
  rw [Dd.ex10] at this
  exact this
 have H1 := jQ h1
 have H2 := jQ h2
 have H3 := jQ h3
 have H4 := jQ h4
 have H5 := jQ h5
 have H6 := jQ h6
 have H7 := jQ h7
 have H8 := jQ h8
 have H9 := jQ h9
 have H10 := jQ h10
 have HE := jQ hE
 clear h1 h2 h3 h4 h5 h6 h7 h8 h9 h10 hE
 go_enter Tryz.func8, Tryz.ntmps8
 go_wp2_with fail
 refine H1.o.mono ?_
 rintro e w1 ⟨v, rfl, hF, hb⟩
 have S1 := jQ (show Sq w v Dd.exF [] [] w1 from ⟨hb, HE.o.step hb, hF, fun x hx => absurd hx List.not_mem_nil, fun x hx => absurd hx List.not_mem_nil⟩)
 clear H1 HE hF hb
 have s2 := (S1.o.new 27 #[.slice v.a1 2 v.c1, .slice v.a2 2 v.c2, .slice v.a3 1 v.c3, .slice v.a4 1 v.c4]).new 70 #[.int .i64 0, .int .i64 0]
 simp only [World.size_alloc] at s2
 have S2 := jQ s2
 clear s2 S1
 go_wp2_with fail
 refine (H2.o v _ S2.o.f S2.o.e).mono ?_
 rintro e w2 ⟨rfl, hb⟩
 have S3 := jQ ((S2.o.next hb).new 48 #[.int .u8 3, .int .i64 0, .int .i64 0, .int .i64 0, .int .i64 1, .int .i64 0, .int .i64 0, .int .i64 50, .int .i64 2, .int .i64 1000, .int .i64 1750, .int .i64 0, .int .i64 100])
 clear hb S2
 have fk := S3.o.l (w1.heap.size, 27, #[.slice v.a1 2 v.c1, .slice v.a2 2 v.c2, .slice v.a3 1 v.c3, .slice v.a4 1 v.c4]) (by simp)
 have f0 := (fk.cell 0).trans rfl
 have f1 := (fk.cell 1).trans rfl
 have f2 := (fk.cell 2).trans rfl
 have f3 := (fk.cell 3).trans rfl
 have fl := fk.lt
 clear fk
 have ck := S3.o.l (w2.heap.size, 48, #[.int .u8 3, .int .i64 0, .int .i64 0, .int .i64 0, .int .i64 1, .int .i64 0, .int .i64 0, .int .i64 50, .int .i64 2, .int .i64 1000, .int .i64 1750, .int .i64 0, .int .i64 100]) (by simp)
 have c0 := (ck.cell 0).trans rfl
 have c1 := (ck.cell 1).trans rfl
 have c2 := (ck.cell 2).trans rfl
 have c3 := (ck.cell 3).trans rfl
 have c4 := (ck.cell 4).trans rfl
 have c5 := (ck.cell 5).trans rfl
 have c6 := (ck.cell 6).trans rfl
 have c7 := (ck.cell 7).trans rfl
 have c8 := (ck.cell 8).trans rfl
 have c9 := (ck.cell 9).trans rfl
 have c10 := (ck.cell 10).trans rfl
 have c11 := (ck.cell 11).trans rfl
 have c12 := (ck.cell 12).trans rfl
 have cl := ck.lt
 clear ck
 go_wp2_with fail
 refine (H3.o v _ S3.o.f S3.o.e).mono ?_
 rintro e w3 ⟨A3, k3, rfl, hR, hk3, hb⟩
 have S4 := jQ ((S3.o.next hb).row hR)
 clear hR
 clear f0 f1 f2 f3 fl c0 c1 c2 c3 c4 c5 c6 c7 c8 c9 c10 c11 c12 cl hb S3
 have fk := S4.o.l (w1.heap.size, 27, #[.slice v.a1 2 v.c1, .slice v.a2 2 v.c2, .slice v.a3 1 v.c3, .slice v.a4 1 v.c4]) (by simp)
 have f0 := (fk.cell 0).trans rfl
 have f1 := (fk.cell 1).trans rfl
 have f2 := (fk.cell 2).trans rfl
 have f3 := (fk.cell 3).trans rfl
 have fl := fk.lt
 clear fk
 go_wp2_with fail
 refine (H4.o v _ S4.o.f S4.o.e).mono ?_
 rintro e w4 ⟨rfl, hb⟩
 have S5 := jQ ((S4.o.next hb).new 48 #[.int .u8 1, .int .i64 0, .int .i64 0, .int .i64 1, .int .i64 0, .int .i64 250, .int .i64 2, .int .i64 0, .int .i64 0, .int .i64 0, .int .i64 0, .int .i64 0, .int .i64 0])
 clear f0 f1 f2 f3 fl hb S4
 have fk := S5.o.l (w1.heap.size, 27, #[.slice v.a1 2 v.c1, .slice v.a2 2 v.c2, .slice v.a3 1 v.c3, .slice v.a4 1 v.c4]) (by simp)
 have f0 := (fk.cell 0).trans rfl
 have f1 := (fk.cell 1).trans rfl
 have f2 := (fk.cell 2).trans rfl
 have f3 := (fk.cell 3).trans rfl
 have fl := fk.lt
 clear fk
 have ck := S5.o.l (w4.heap.size, 48, #[.int .u8 1, .int .i64 0, .int .i64 0, .int .i64 1, .int .i64 0, .int .i64 250, .int .i64 2, .int .i64 0, .int .i64 0, .int .i64 0, .int .i64 0, .int .i64 0, .int .i64 0]) (by simp)
 have c0 := (ck.cell 0).trans rfl
 have c1 := (ck.cell 1).trans rfl
 have c2 := (ck.cell 2).trans rfl
 have c3 := (ck.cell 3).trans rfl
 have c4 := (ck.cell 4).trans rfl
 have c5 := (ck.cell 5).trans rfl
 have c6 := (ck.cell 6).trans rfl
 have c7 := (ck.cell 7).trans rfl
 have c8 := (ck.cell 8).trans rfl
 have c9 := (ck.cell 9).trans rfl
 have c10 := (ck.cell 10).trans rfl
 have c11 := (ck.cell 11).trans rfl
 have c12 := (ck.cell 12).trans rfl
 have cl := ck.lt
 clear ck
 go_wp2_with fail
 refine (H5.o v _ S5.o.f S5.o.e).mono ?_
 rintro e w5 ⟨A5, k5, rfl, hR, hk5, hb⟩
 have S6 := jQ ((S5.o.next hb).row hR)
 clear hR
 clear f0 f1 f2 f3 fl c0 c1 c2 c3 c4 c5 c6 c7 c8 c9 c10 c11 c12 cl hb S5
 have fk := S6.o.l (w1.heap.size, 27, #[.slice v.a1 2 v.c1, .slice v.a2 2 v.c2, .slice v.a3 1 v.c3, .slice v.a4 1 v.c4]) (by simp)
 have f0 := (fk.cell 0).trans rfl
 have f1 := (fk.cell 1).trans rfl
 have f2 := (fk.cell 2).trans rfl
 have f3 := (fk.cell 3).trans rfl
 have fl := fk.lt
 clear fk
 go_wp2_with fail
 refine (H6.o v _ S6.o.f S6.o.e).mono ?_
 rintro e w6 ⟨A6, k6, rfl, hR, _, hb⟩
 have S7 := jQ ((S6.o.next hb).row hR)
 clear hR
 clear f0 f1 f2 f3 fl hb S6
 have fk := S7.o.l (w1.heap.size, 27, #[.slice v.a1 2 v.c1, .slice v.a2 2 v.c2, .slice v.a3 1 v.c3, .slice v.a4 1 v.c4]) (by simp)
 have f0 := (fk.cell 0).trans rfl
 have f1 := (fk.cell 1).trans rfl
 have f2 := (fk.cell 2).trans rfl
 have f3 := (fk.cell 3).trans rfl
 have fl := fk.lt
 clear fk
 have S8 := jQ (S7.o.new 3 #[.int .i64 0, .int .i64 100, .int .i64 100, .int .i64 150, .int .i64 150])
 have HY := jQ (show Rd (w6.alloc (.cells #[.int .i64 0, .int .i64 100, .int .i64 100, .int .i64 150, .int .i64 150] 3)) (w6.alloc (.cells #[.int .i64 0, .int .i64 100, .int .i64 100, .int .i64 150, .int .i64 150] 3)).heap.size 1 (some ⟨w6.heap.size, 0, none⟩) 5 (icells Dd.exY) from ⟨rfl, fun _ => ⟨w6.heap.size, 0, rfl, by rw [World.size_alloc]; omega, fun j hj => by
  rw [Nat.zero_add, (Bk.new w6 3 #[.int .i64 0, .int .i64 100, .int .i64 100, .int .i64 150, .int .i64 150]).cell j]
  rcases (by omega : j = 0 ∨ j = 1 ∨ j = 2 ∨ j = 3 ∨ j = 4) with rfl | rfl | rfl | rfl | rfl <;> rfl⟩⟩)
 go_wp2_with fail
 refine (H7.o v _ _ S8.o.f HY.o).mono ?_
 rintro e w7 ⟨rfl, hb⟩
 have S9 := jQ (S8.o.next hb)
 clear hb S7 S8 HY f0 f1 f2 f3 fl
 have fk := S9.o.l (w1.heap.size, 27, #[.slice v.a1 2 v.c1, .slice v.a2 2 v.c2, .slice v.a3 1 v.c3, .slice v.a4 1 v.c4]) (by simp)
 have f0 := (fk.cell 0).trans rfl
 have f1 := (fk.cell 1).trans rfl
 have f2 := (fk.cell 2).trans rfl
 have f3 := (fk.cell 3).trans rfl
 have fl := fk.lt
 clear fk
 have ck := S9.o.l (w2.heap.size, 48, #[.int .u8 3, .int .i64 0, .int .i64 0, .int .i64 0, .int .i64 1, .int .i64 0, .int .i64 0, .int .i64 50, .int .i64 2, .int .i64 1000, .int .i64 1750, .int .i64 0, .int .i64 100]) (by simp)
 have c0 := (ck.cell 0).trans rfl
 have c1 := (ck.cell 1).trans rfl
 have c2 := (ck.cell 2).trans rfl
 have c3 := (ck.cell 3).trans rfl
 have c4 := (ck.cell 4).trans rfl
 have c5 := (ck.cell 5).trans rfl
 have c6 := (ck.cell 6).trans rfl
 have c7 := (ck.cell 7).trans rfl
 have c8 := (ck.cell 8).trans rfl
 have c9 := (ck.cell 9).trans rfl
 have c10 := (ck.cell 10).trans rfl
 have c11 := (ck.cell 11).trans rfl
 have c12 := (ck.cell 12).trans rfl
 have cl := ck.lt
 clear ck
 go_wp2_with fail
 refine (H8.o v _ S9.o.f S9.o.e).mono ?_
 rintro e w8 ⟨rfl, hb⟩
 have S10 := jQ ((S9.o.next hb).new 48 #[.int .u8 3, .int .i64 0, .int .i64 0, .int .i64 1, .int .i64 0, .int .i64 0, .int .i64 0, .int .i64 230, .int .i64 2, .int .i64 1000, .int .i64 1750, .int .i64 0, .int .i64 100])
 clear f0 f1 f2 f3 fl c0 c1 c2 c3 c4 c5 c6 c7 c8 c9 c10 c11 c12 cl hb S9
 have fk := S10.o.l (w1.heap.size, 27, #[.slice v.a1 2 v.c1, .slice v.a2 2 v.c2, .slice v.a3 1 v.c3, .slice v.a4 1 v.c4]) (by simp)
 have f0 := (fk.cell 0).trans rfl
 have f1 := (fk.cell 1).trans rfl
 have f2 := (fk.cell 2).trans rfl
 have f3 := (fk.cell 3).trans rfl
 have fl := fk.lt
 clear fk
 go_wp2_with fail
 refine (H9.o v _ S10.o.f S10.o.e).mono ?_
 rintro e w9 ⟨A9, k9, ps, hps, rfl, _, _, _, hb⟩
 have S11 := jQ ((S10.o.next hb).new 70 #[.int .i64 4, .int .i64 1])
 have hpl : ps.length = 0 := by
  have := congrArg List.length hps
  simpa using this
 clear hb hps S10 f0 f1 f2 f3 fl
 have fk := S11.o.l (w1.heap.size, 27, #[.slice v.a1 2 v.c1, .slice v.a2 2 v.c2, .slice v.a3 1 v.c3, .slice v.a4 1 v.c4]) (by simp)
 have f0 := (fk.cell 0).trans rfl
 have f1 := (fk.cell 1).trans rfl
 have f2 := (fk.cell 2).trans rfl
 have f3 := (fk.cell 3).trans rfl
 have fl := fk.lt
 clear fk
 have xk := S11.o.l (w1.heap.size + 1, 70, #[.int .i64 0, .int .i64 0]) (by simp)
 have x0 := (xk.cell 0).trans rfl
 have x1 := (xk.cell 1).trans rfl
 have xl := xk.lt
 clear xk
 have bk := S11.o.l (w8.heap.size, 48, #[.int .u8 3, .int .i64 0, .int .i64 0, .int .i64 1, .int .i64 0, .int .i64 0, .int .i64 0, .int .i64 230, .int .i64 2, .int .i64 1000, .int .i64 1750, .int .i64 0, .int .i64 100]) (by simp)
 have b0 := (bk.cell 0).trans rfl
 have b1 := (bk.cell 1).trans rfl
 have b2 := (bk.cell 2).trans rfl
 have b3 := (bk.cell 3).trans rfl
 have b4 := (bk.cell 4).trans rfl
 have b5 := (bk.cell 5).trans rfl
 have b6 := (bk.cell 6).trans rfl
 have b7 := (bk.cell 7).trans rfl
 have b8 := (bk.cell 8).trans rfl
 have b9 := (bk.cell 9).trans rfl
 have b10 := (bk.cell 10).trans rfl
 have b11 := (bk.cell 11).trans rfl
 have b12 := (bk.cell 12).trans rfl
 have bl := bk.lt
 clear bk
 have pk := S11.o.l (w9.heap.size, 70, #[.int .i64 4, .int .i64 1]) (by simp)
 have p0 := (pk.cell 0).trans rfl
 have p1 := (pk.cell 1).trans rfl
 have pl := pk.lt
 clear pk
 obtain ⟨b3, o3, rfl, hb3, e3⟩ := (S11.o.m (4, A3, 2, bcells [⟨1, 2, 519, 7⟩, ⟨2, 1, -480, 7⟩]) (by simp)).2 (show 0 < _ by simp)
 obtain ⟨b5, o5, rfl, hb5, e5⟩ := (S11.o.m (4, A5, 2, bcells [⟨0, 2, 252, 7⟩, ⟨2, 0, -248, 7⟩]) (by simp)).2 (show 0 < _ by simp)
 obtain ⟨b6, o6, rfl, hb6, e6⟩ := (S11.o.m (4, A6, 10, bcells [⟨0, 1, 100000, 0⟩, ⟨1, 0, 0, 0⟩, ⟨0, 2, 100000, 0⟩, ⟨2, 0, 0, 0⟩, ⟨0, 3, 100000, 0⟩, ⟨3, 0, 0, 0⟩, ⟨0, 4, 100000, 0⟩, ⟨4, 0, 0, 0⟩, ⟨3, 1, 0, 0⟩, ⟨4, 2, 0, 0⟩]) (by simp)).2 (show 0 < _ by simp)
 have l0 : (w9.alloc (.cells #[.int .i64 4, .int .i64 1] 70)).cell? ⟨b3, o3, none⟩ = some (.int .i64 1) := (e3 0 (by simp)).trans rfl
 have l1 : (w9.alloc (.cells #[.int .i64 4, .int .i64 1] 70)).cell? ⟨b3, o3 + 1, none⟩ = some (.int .i64 2) := (e3 1 (by simp)).trans rfl
 have l2 : (w9.alloc (.cells #[.int .i64 4, .int .i64 1] 70)).cell? ⟨b3, o3 + 2, none⟩ = some (.int .i64 519) := (e3 2 (by simp)).trans rfl
 have l3 : (w9.alloc (.cells #[.int .i64 4, .int .i64 1] 70)).cell? ⟨b3, o3 + 3, none⟩ = some (.int .i64 7) := (e3 3 (by simp)).trans rfl
 have l4 : (w9.alloc (.cells #[.int .i64 4, .int .i64 1] 70)).cell? ⟨b3, o3 + 4, none⟩ = some (.int .i64 2) := (e3 4 (by simp)).trans rfl
 have l5 : (w9.alloc (.cells #[.int .i64 4, .int .i64 1] 70)).cell? ⟨b3, o3 + 5, none⟩ = some (.int .i64 1) := (e3 5 (by simp)).trans rfl
 have l6 : (w9.alloc (.cells #[.int .i64 4, .int .i64 1] 70)).cell? ⟨b3, o3 + 6, none⟩ = some (.int .i64 (-480)) := (e3 6 (by simp)).trans rfl
 have l7 : (w9.alloc (.cells #[.int .i64 4, .int .i64 1] 70)).cell? ⟨b3, o3 + 7, none⟩ = some (.int .i64 7) := (e3 7 (by simp)).trans rfl
 have m4 : (w9.alloc (.cells #[.int .i64 4, .int .i64 1] 70)).cell? ⟨b5, o5 + 4, none⟩ = some (.int .i64 2) := (e5 4 (by simp)).trans rfl
 have m5 : (w9.alloc (.cells #[.int .i64 4, .int .i64 1] 70)).cell? ⟨b5, o5 + 5, none⟩ = some (.int .i64 0) := (e5 5 (by simp)).trans rfl
 have m6 : (w9.alloc (.cells #[.int .i64 4, .int .i64 1] 70)).cell? ⟨b5, o5 + 6, none⟩ = some (.int .i64 (-248)) := (e5 6 (by simp)).trans rfl
 have m7 : (w9.alloc (.cells #[.int .i64 4, .int .i64 1] 70)).cell? ⟨b5, o5 + 7, none⟩ = some (.int .i64 7) := (e5 7 (by simp)).trans rfl
 have n36 : (w9.alloc (.cells #[.int .i64 4, .int .i64 1] 70)).cell? ⟨b6, o6 + 36, none⟩ = some (.int .i64 4) := (e6 36 (by simp)).trans rfl
 have n37 : (w9.alloc (.cells #[.int .i64 4, .int .i64 1] 70)).cell? ⟨b6, o6 + 37, none⟩ = some (.int .i64 2) := (e6 37 (by simp)).trans rfl
 have n38 : (w9.alloc (.cells #[.int .i64 4, .int .i64 1] 70)).cell? ⟨b6, o6 + 38, none⟩ = some (.int .i64 0) := (e6 38 (by simp)).trans rfl
 have n39 : (w9.alloc (.cells #[.int .i64 4, .int .i64 1] 70)).cell? ⟨b6, o6 + 39, none⟩ = some (.int .i64 0) := (e6 39 (by simp)).trans rfl
 clear e3 e5 e6
 go_wp2_with fail
 refine (H10.o v _ S11.o.f S11.o.e).mono ?_
 rintro e w10 ⟨rfl, hb⟩
 have S12 := jQ (S11.o.next hb)
 clear hb
 go_wp2_with fail
 go_ret
 exact ⟨rfl, S12.o.b⟩
end
end Go.Proofs.YtccikcpcfdjobaaGreatDoor
