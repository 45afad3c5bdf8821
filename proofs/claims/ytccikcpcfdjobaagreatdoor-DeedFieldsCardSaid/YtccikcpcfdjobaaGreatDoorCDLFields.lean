/-
  DeedFields: the law's walk.
-/
import Derived.Deep.RegionHeld3
import Derived.Test.YtccikcpcfdjobaaGreatDoorBr43
import Derived.Test.YtccikcpcfdjobaaGreatDoorBr17
import Derived.Test.YtccikcpcfdjobaaGreatDoorBr30
import Derived.Test.YtccikcpcfdjobaaGreatDoorBr28
import Derived.Test.YtccikcpcfdjobaaGreatDoorBr33
import Derived.Test.YtccikcpcfdjobaaGreatDoorBr18
import Derived.Test.YtccikcpcfdjobaaGreatDoorBz
set_option linter.unusedVariables false
set_option linter.unusedSimpArgs false
set_option maxHeartbeats 8000000
set_option maxRecDepth 100000
namespace Go.Proofs.YtccikcpcfdjobaaGreatDoor
section
open Go.RowKit

theorem Lv.cells {w W : World} {v : Fv} {f : Dd.Fd} (h : Lv w v f W) : (W.cell? ⟨w.heap.size, 0, none⟩ = some (.slice v.a1 f.st.length v.c1) ∧ W.cell? ⟨w.heap.size, 1, none⟩ = some (.slice v.a2 f.li.length v.c2) ∧ W.cell? ⟨w.heap.size, 2, none⟩ = some (.slice v.a3 f.pa.length v.c3) ∧ W.cell? ⟨w.heap.size, 3, none⟩ = some (.slice v.a4 f.va.length v.c4)) ∧ w.heap.size < W.heap.size :=
 ⟨⟨(h.k.cell 0).trans rfl, (h.k.cell 1).trans rfl, (h.k.cell 2).trans rfl, (h.k.cell 3).trans rfl⟩, h.k.lt⟩
structure Lg (w : World) (v : Fv) (f : Dd.Fd) (A1 A2 : Option Addr) (l : List Dd.Bd) (W : World) : Prop where
 lc : Lv w v f W
 r1 : Rd W W.heap.size 4 A1 l.length (bcells l)
 r2 : Rd W W.heap.size 4 A2 l.length (bcells l)
theorem Lg.next {w W W' : World} {v : Fv} {f : Dd.Fd} {A1 A2 : Option Addr} {l : List Dd.Bd} (h : Lg w v f A1 A2 l W) (hb : Below W.heap.size W W') : Lg w v f A1 A2 l W' :=
 ⟨h.lc.next hb, (h.r1.below hb (Nat.le_refl _)).more hb.size, (h.r2.below hb (Nat.le_refl _)).more hb.size⟩
theorem Dd.natureF_len (f : Dd.Fd) : (Dd.natureF f).1.length ≤ 1000000 := by
 unfold Dd.natureF
 split
 ·simp
 ·rename_i h
  have := (Dd.nat_len (f := f) (by omega)).1
  dsimp only
  omega

set_option maxHeartbeats 16000000 in
theorem fields_vast (v : Fv) (f : Dd.Fd) (w : World) (hE : Env w) (hF : FRw w w.heap.size v f) (hv : Dd.vastF f = true) :
  Calls Tryz.prog 6 #[fval v f] w fun e w' => e = .returned (.bool true) ∧ Below w.heap.size w w' := by
 have va := fun W (h : Lv w v f W) => vast_any v f W h.r
 rw [hv] at va
 have SP := jQ (fun W (h : Env W) => spoken_any W h)
 have S0 := jQ (Lv.new hE hF)
 simp only [fval_def] at va S0 ⊢
 have VA := jQ va
 clear hF hv hE va
 go_enter Tryz.func6, Tryz.ntmps6
 obtain ⟨⟨f0, f1, f2, f3⟩, fl⟩ := S0.o.cells
 go_wp2_with fail
 refine (VA.o _ S0.o).mono ?_
 rintro e w1 ⟨rfl, hb⟩
 have S1 := jQ (S0.o.next hb)
 clear hb f0 f1 f2 f3 fl S0
 go_wp2_with fail
 refine (SP.o _ S1.o.e).mono ?_
 rintro e w2 ⟨rfl, hb⟩
 have S2 := jQ (S1.o.next hb)
 clear hb S1
 go_wp2_with fail
 go_ret
 exact ⟨rfl, S2.o.b⟩

set_option maxHeartbeats 16000000 in
theorem fields_main (v : Fv) (f : Dd.Fd) (w : World) (hE : Env w) (hF : FRw w w.heap.size v f) (hv : Dd.vastF f = false) :
  Calls Tryz.prog 6 #[fval v f] w fun e w' => e = .returned (.bool true) ∧ Below w.heap.size w w' := by
 have va := fun W (h : Lv w v f W) => vast_any v f W h.r
 rw [hv] at va
 have na := fun W (h : Lv w v f W) => Nature_any v f W (h.r.small hv)
 have qn := fun W (h : Lv w v f W) => qNatureF_any v f W (h.r.small hv)
 have ce := fun W (h : Lv w v f W) => checkField_any v f W (h.r.small hv)
 have qe := fun W (h : Lv w v f W) => qCheckField_any v f W (h.r.small hv)
 have pr := fun W (h : Lv w v f W) => PrintField_any v f W (h.r.small hv) h.e
 have qp := fun W (h : Lv w v f W) => qPrintF_any v f W (h.r.small hv)
 have pt := fun W (h : Lv w v f W) => Points_any v f W (h.r.small hv)
 have qt := fun W (h : Lv w v f W) => qPoints_any v f W (h.r.small hv)
 have hl1 := Dd.natureF_len f
 obtain ⟨l, hl⟩ : ∃ q, (Dd.natureF f).1 = q := ⟨_, rfl⟩
 simp only [hl] at na qn hl1
 obtain ⟨E1, hE1⟩ : ∃ q, (Dd.natureF f).2 = q := ⟨_, rfl⟩
 simp only [hE1] at na qn
 obtain ⟨E2, hE2⟩ : ∃ q, Dd.fieldE f = q := ⟨_, rfl⟩
 simp only [hE2] at ce qe
 obtain ⟨T, hT⟩ : ∃ q, Dd.printF f = q := ⟨_, rfl⟩
 simp only [hT] at pr qp
 obtain ⟨N, hN⟩ : ∃ q, Dd.ptsF f = q := ⟨_, rfl⟩
 simp only [hN] at pt qt
 have SP := jQ (fun W (h : Env W) => spoken_any W h)
 have S0 := jQ (Lv.new hE hF)
 simp only [fval_def, sv_def] at va na qn ce qe pr qp pt qt S0 ⊢
 have VA := jQ va
 have NA := jQ na
 have QN := jQ qn
 have CE := jQ ce
 have QE := jQ qe
 have PR := jQ pr
 have QP := jQ qp
 have PT := jQ pt
 have QT := jQ qt
 have SB := jQ (fun A1 A2 c1 c2 (ys : List Dd.Bd) W h1 h2 hl => sameBounds_same A1 A2 c1 c2 ys W h1 h2 hl)
 have HL1 := jQ hl1
 clear hF hv hE hl1 va na qn ce qe pr qp pt qt hl hE1 hE2 hT hN
 go_enter Tryz.func6, Tryz.ntmps6
 obtain ⟨⟨f0, f1, f2, f3⟩, fl⟩ := S0.o.cells
 go_wp2_with fail
 refine (VA.o _ S0.o).mono ?_
 rintro e w1 ⟨rfl, hb⟩
 have S1 := jQ (S0.o.next hb)
 clear hb f0 f1 f2 f3 fl S0
 obtain ⟨⟨f0, f1, f2, f3⟩, fl⟩ := S1.o.cells
 go_wp2_with fail
 refine (NA.o _ S1.o).mono ?_
 rintro e w2 ⟨A1, k1, rfl, hrd, -, hb⟩
 have S2 := jQ (S1.o.next hb)
 have R1 := jQ hrd
 clear hb f0 f1 f2 f3 fl S1 hrd
 obtain ⟨⟨f0, f1, f2, f3⟩, fl⟩ := S2.o.cells
 go_wp2_with fail
 refine (QN.o _ S2.o).mono ?_
 rintro e w3 ⟨A2, k2, rfl, hrd, hb⟩
 have Z0 : Lg w v f A1 A2 l w3 := ⟨S2.o.next hb, (R1.o.below hb (Nat.le_refl _)).more hb.size, hrd⟩
 clear hb f0 f1 f2 f3 fl S2 hrd R1
 have s0 : Lg w v f A1 A2 l w3.drew := Z0.next (Below.refl _ _).drew
 obtain ⟨⟨f0, f1, f2, f3⟩, fl⟩ := Z0.lc.cells
 clear Z0
 have TZ := jQ (fun V (h : Lg w v f A1 A2 l V) => h.lc.cells.1)
 go_wp2_with fail
 go_region_held3 (fun V => V.cell? ⟨w.heap.size, 0, none⟩ = some (.slice v.a1 f.st.length v.c1) ∧ V.cell? ⟨w.heap.size, 1, none⟩ = some (.slice v.a2 f.li.length v.c2) ∧ V.cell? ⟨w.heap.size, 2, none⟩ = some (.slice v.a3 f.pa.length v.c3) ∧ V.cell? ⟨w.heap.size, 3, none⟩ = some (.slice v.a4 f.va.length v.c4))
  (first
   | ((try dsimp only); first | (with_reducible exact TZ.o _ s8) | (with_reducible exact TZ.o _ s7) | (with_reducible exact TZ.o _ s6) | (with_reducible exact TZ.o _ s5) | (with_reducible exact TZ.o _ s4) | (with_reducible exact TZ.o _ s3) | (with_reducible exact TZ.o _ s2) | (with_reducible exact TZ.o _ s1) | (with_reducible exact TZ.o _ s0)))
  (first
   | (go_at_call 8; refine (SP.o _ s0.lc.e).mono ?_; rintro e v1 ⟨rfl, hb1⟩; have s1 : Lg w v f A1 A2 l v1 := s0.next hb1)
   | (go_at_call 30; refine (SB.o A1 A2 k1 k2 _ _ s1.r1 s1.r2 HL1.o).mono ?_; rintro e v2 ⟨rfl, hb2⟩; have s2 : Lg w v f A1 A2 l v2 := s1.next hb2)
   | (go_at_call 35; refine (CE.o _ s2.lc).mono ?_; rintro e v3 ⟨rfl, hb3⟩; have s3 : Lg w v f A1 A2 l v3 := s2.next hb3)
   | (go_at_call 36; refine (QE.o _ s3.lc).mono ?_; rintro e v4 ⟨rfl, hb4⟩; have s4 : Lg w v f A1 A2 l v4 := s3.next hb4)
   | (go_at_call 37; refine (PR.o _ s4.lc).mono ?_; rintro e v5 ⟨rfl, hb5⟩; have s5 : Lg w v f A1 A2 l v5 := s4.next hb5)
   | (go_at_call 38; refine (QP.o _ s5.lc).mono ?_; rintro e v6 ⟨rfl, hb6⟩; have s6 : Lg w v f A1 A2 l v6 := s5.next hb6)
   | (go_at_call 39; refine (PT.o _ s6.lc).mono ?_; rintro e v7 ⟨rfl, hb7⟩; have s7 : Lg w v f A1 A2 l v7 := s6.next hb7)
   | (go_at_call 40; refine (QT.o _ s7.lc).mono ?_; rintro e v8 ⟨rfl, hb8⟩; have s8 : Lg w v f A1 A2 l v8 := s7.next hb8))
 all_goals
  go_wp2_with fail
  go_ret
  exact ⟨rfl, s8.lc.b⟩

theorem deedFields_any (v : Fv) (f : Dd.Fd) (w : World) (hE : Env w) (hF : FRw w w.heap.size v f) :
  Calls Tryz.prog 6 #[fval v f] w fun e w' => e = .returned (.bool true) ∧ Below w.heap.size w w' := by
 rcases hv : Dd.vastF f with _ | _
 ·exact fields_main v f w hE hF hv
 ·exact fields_vast v f w hE hF hv

end
end Go.Proofs.YtccikcpcfdjobaaGreatDoor
