/-
  Proved: DeedPoints returns true for every input, and its arguments read behind the call as before: the row, and the card that ties the listed variables to the program's text.
  Conditions: no bound on any input; the variables that the row lists hold what the program's text lays into them.
-/
import Derived.Test.YtccikcpcfdjobaaGreatDoorCDLPoints
import Derived.Test.YtccikcpcfdjobaaGreatDoorBn20
import Derived.Test.YtccikcpcfdjobaaGreatDoorBn43
import Derived.Test.YtccikcpcfdjobaaGreatDoorCards
set_option linter.unusedVariables false
set_option linter.unusedSimpArgs false
namespace Go.Proofs.YtccikcpcfdjobaaGreatDoor
open Go.ChangeShapes Go.WideShapes Go.ChangeAt Go.RowKit Go.Deep Go.Joins
set_option maxRecDepth 100000

theorem deedPoints_lifted (os : Os) (started : os.Started) (H : Type) (enc : TypeId × Value → H) :
  ReturnsInHanded {} Tryz.checked os 3 .any (fun w args => (Rows.deedPointsSpec.pre enc Tryz.prog Tryz.f3 Rows.deedPointsRow.domain false w args ∧ laidMetH Tryz.prog laidL w) ∧ sizedMet enc Tryz.prog Tryz.f3 (OpenSpec.ofChange Rows.deedPointsSpec) false w args)
   (Rows.deedPointsSpec.post enc Tryz.prog Tryz.f3 false true false false) := by
 refine wrap_both (C := Tryz.checked) (X := fun w _ => laidMetH Tryz.prog laidL w) (fun _ _ _ hh h => h.of_heap hh) Tryz.ownL started (by kernel_rfl) Tryz.func3
  (ChangeSpec.witness_shaped (enc := enc) (C := Tryz.checked) (os := os) (X := fun w _ => laidMetH Tryz.prog laidL w) false (World.laidAll Tryz.prog os laidL) #[.agg #[.slice none 0 0, .slice none 0 0, .slice none 0 0, .slice none 0 0], .int .i64 0, .int .i64 0, .int .i64 0, .int .i64 0, .int .i64 0, .slice none 0 0] 8 (World.laidAll_os _ _ _)
   (shaped_door os _) (by kernel_rfl) (by kernel_rfl) (by kernel_rfl) (laid_door os _)) ?_
 intro W base args ds gs before hval0 hW hL hsh
 have hval : ∀ (j : Nat) t v, Tryz.f3.params[j]? = some t → args[j]? = some v → Value.okWide Tryz.prog W .any base t v := hval0
 have hW' := hW
 obtain ⟨p, q, hA0, hV, rfl, hfz, hnd⟩ := hW
 have hA : DataW.TrodAll enc Tryz.prog W 0 (fun _ => true) true Tryz.f3.params.toList args.toList ds p := hA0
 rw [Tryz.params3] at hA hval
 obtain ⟨v0, v1, v2, v3, v4, v5, v6, d0, d1, d2, d3, d4, d5, d6, p0, p1, p2, p3, p4, p5, p6, rfl, rfl, rfl, h0, h1, h2, h3, h4, h5, h6⟩ := trodAll_seven hA
 obtain ⟨u0, fd0, rfl, hF0⟩ := open_field (hval 0 27 v0 rfl rfl) h0
 obtain ⟨a1, rfl, _, _, hw1⟩ := open_int Tryz.underlying3 (hval 1 3 v1 rfl rfl) h1
 have hw1 := wfI.le hw1
 obtain ⟨a2, rfl, _, _, hw2⟩ := open_int Tryz.underlying3 (hval 2 3 v2 rfl rfl) h2
 have hw2 := wfI.le hw2
 obtain ⟨a3, rfl, _, _, hw3⟩ := open_int Tryz.underlying3 (hval 3 3 v3 rfl rfl) h3
 have hw3 := wfI.le hw3
 obtain ⟨a4, rfl, _, _, hw4⟩ := open_int Tryz.underlying3 (hval 4 3 v4 rfl rfl) h4
 have hw4 := wfI.le hw4
 obtain ⟨a5, rfl, _, _, hw5⟩ := open_int Tryz.underlying3 (hval 5 3 v5 rfl rfl) h5
 have hw5 := wfI.le hw5
 obtain ⟨A6, c6, y6, rfl, hR6, hn6⟩ := open_nums (hval 6 28 v6 rfl rfl) h6
 have hE := env_of hsh hL
 have hV2 := hV
 obtain ⟨rfl, rfl⟩ := trodVars_none hV
 have hlt : ∀ x ∈ p0 ++ (p1 ++ (p2 ++ (p3 ++ (p4 ++ (p5 ++ p6))))) ++ [], x.block < W.heap.size := fun x hx => by simpa using hW'.lt x (by simpa using hx)
 refine (deedPoints_any u0 fd0 a1 a2 a3 a4 a5 hw3 A6 c6 y6 hn6 W hE hF0 hR6).mono fun e W' ⟨he, hb⟩ => ?_
 subst he
 exact ⟨_, rfl, _, _, _, [], _, [], hW', trodAll_mk1 (shut_bool Tryz.underlying4 _),
  trodAll_mk7 (Below.trod Tryz.laidOutL (by kernel_rfl) (of_decide_eq_true (by kernel_rfl)) h0 hb (fun x hx => hlt x (by simp [hx])))
   (Below.trod Tryz.laidOutL (by kernel_rfl) (of_decide_eq_true (by kernel_rfl)) h1 hb (fun x hx => hlt x (by simp [hx])))
   (Below.trod Tryz.laidOutL (by kernel_rfl) (of_decide_eq_true (by kernel_rfl)) h2 hb (fun x hx => hlt x (by simp [hx])))
   (Below.trod Tryz.laidOutL (by kernel_rfl) (of_decide_eq_true (by kernel_rfl)) h3 hb (fun x hx => hlt x (by simp [hx])))
   (Below.trod Tryz.laidOutL (by kernel_rfl) (of_decide_eq_true (by kernel_rfl)) h4 hb (fun x hx => hlt x (by simp [hx])))
   (Below.trod Tryz.laidOutL (by kernel_rfl) (of_decide_eq_true (by kernel_rfl)) h5 hb (fun x hx => hlt x (by simp [hx])))
   (Below.trod Tryz.laidOutL (by kernel_rfl) (of_decide_eq_true (by kernel_rfl)) h6 hb (fun x hx => hlt x (by simp [hx]))),
  hb.trodVars Tryz.laidOutL (by kernel_rfl) hV2, hb.frame _, fun h => by cases h⟩

theorem deedPoints_k1 : (Rows.deedPointsRow.wf (OpenSpec.ofChange Rows.deedPointsSpec)) = true := by kernel_rfl
theorem deedPoints_k4 : (Tryz.f3.params.all (Tryz.prog.readableRec ·)) = true := by kernel_rfl
theorem deedPoints_k5 : (namedTie Tryz.prog Rows.deedPointsRow.named Rows.deedPointsSpec.vars) = true := by kernel_rfl
theorem deedPoints_k6 : ((Rows.deedPointsRow.stops == [])) = true := by kernel_rfl
theorem deedPoints_k8 : ((Rows.deedPointsRow.knobs == [])) = true := by kernel_rfl
theorem deedPoints_k10 : ((Rows.deedPointsRow.inPlace == Tryz.prog.inPlace 3)) = true := by kernel_rfl
theorem deedPoints_k11 : ((Rows.deedPointsRow.unfollowed == Tryz.prog.unfollowed 3)) = true := by kernel_rfl
theorem deedPoints_k12 : ((Rows.deedPointsRow.recurses == Tryz.prog.recurses 3)) = true := by kernel_rfl
theorem deedPoints_k13 : ((Rows.deedPointsRow.named == Tryz.prog.varsNamed 3)) = true := by kernel_rfl
theorem deedPoints_k14 : ((Rows.deedPointsRow.maps == (Tryz.f3.params.toList ++ Rows.deedPointsSpec.plain.varTypes Tryz.prog).any (Tryz.prog.mapsRec ·))) = true := by kernel_rfl
theorem deedPoints_k15 : ((Rows.deedPointsRow.ifaces == (Tryz.f3.params.toList ++ Rows.deedPointsSpec.plain.varTypes Tryz.prog).any (Tryz.prog.ifacesRec ·))) = true := by kernel_rfl
theorem deedPoints_k16 : ((Rows.deedPointsRow.mapsOut == Tryz.prog.mapsAmong Tryz.f3.resultTypes.toList)) = true := by kernel_rfl
theorem deedPoints_k17 : ((Rows.deedPointsRow.loops == (Tryz.f3.params.toList ++ Rows.deedPointsSpec.plain.varTypes Tryz.prog).any (Tryz.prog.loopsFrom ·))) = true := by kernel_rfl
theorem deedPoints_k17b : ((Rows.deedPointsRow.wideKeys == (Tryz.f3.params.toList ++ Rows.deedPointsSpec.plain.varTypes Tryz.prog ++ Tryz.f3.resultTypes.toList).any (Tryz.prog.wideKeysFrom ·))) = true := by kernel_rfl
theorem deedPoints_k18 : (Rows.deedPointsSpec.vars.all (Tryz.prog.varReadable ·)) = true := by kernel_rfl
theorem deedPoints_k19 : (Tryz.f3.resultTypes.all (fun t => Tryz.prog.readableRec t && decide (t < Tryz.prog.types.size))) = true := by kernel_rfl
theorem deedPoints_k20 : ((Rows.deedPointsRow.ifacesOut == Tryz.f3.resultTypes.toList.any (Tryz.prog.ifacesRec ·))) = true := by kernel_rfl
theorem deedPoints_k21 : ((Rows.deedPointsRow.loopsOut == Tryz.f3.resultTypes.toList.any (Tryz.prog.loopsFrom ·))) = true := by kernel_rfl
theorem deedPoints_k22 : ((Rows.deedPointsRow.plainKeys == Tryz.prog.plainKeys)) = true := by kernel_rfl
theorem deedPoints_k23 : (Rows.deedPointsRow.shortTexts.isNone) = true := by kernel_rfl
theorem deedPoints_k24b : ((Rows.deedPointsRow.lifted == Tryz.prog.liftsFinal)) = true := by kernel_rfl
theorem deedPoints_k24c : ((Tryz.prog.make == some Rows.deedPointsRow.make)) = true := by kernel_rfl
theorem deedPoints_k25 : ((Rows.deedPointsRow.kinds == (if Rows.deedPointsRow.domain.isEmpty then [] else Tryz.f3.params.toList.map fun t => match Tryz.prog.underlying t with | some (.int k) => some k | _ => none))) = true := by kernel_rfl
theorem deedPoints_k26 : ((Rows.deedPointsRow.pinned == Rows.deedPointsRow.pinnedBy)) = true := by kernel_rfl
theorem deedPoints_k27 : ((Rows.deedPointsRow.veiled == (Tryz.f3.params.toList ++ Rows.deedPointsSpec.plain.varTypes Tryz.prog ++ Tryz.f3.resultTypes.toList).any (Tryz.prog.veiledRec ·))) = true := by kernel_rfl
theorem deedPoints_k28 : (Rows.deedPointsRow.veiledFits Tryz.prog Tryz.f3.params.toList (Tryz.f3.params.toList ++ Rows.deedPointsSpec.plain.varTypes Tryz.prog ++ Tryz.f3.resultTypes.toList)) = true := by kernel_rfl
theorem deedPoints_closed : joinedFacts Tryz.prog 3 Tryz.f3 Rows.deedPointsSpec Rows.deedPointsRow = true := joinedFacts_of deedPoints_k1 joined_k2 joined_k3 deedPoints_k4 deedPoints_k5 deedPoints_k6 joined_k7 deedPoints_k8 joined_k9 deedPoints_k10 deedPoints_k11 deedPoints_k12 deedPoints_k13 deedPoints_k14 deedPoints_k15 deedPoints_k16 deedPoints_k17 deedPoints_k17b deedPoints_k18 deedPoints_k19 deedPoints_k20 deedPoints_k21 deedPoints_k22 deedPoints_k23 joined_k23b joined_k24 deedPoints_k24b deedPoints_k24c deedPoints_k25 deedPoints_k26 deedPoints_k27 deedPoints_k28
theorem deedPoints_inst : Tryz.f3.isInstance Tryz.prog Rows.deedPointsRow.origin Rows.deedPointsRow.targs := of_decide_eq_true (by kernel_rfl)
theorem deedPoints_wrap : Tryz.f3.isWrapper Tryz.prog Rows.deedPointsRow.wrapper Rows.deedPointsRow.mainSum := by unfold Func.isWrapper; rw [if_neg (by decide +kernel)]; exact ⟨rfl, rfl⟩

theorem deedPoints_named : Tryz.prog.funcNamed "merestone/merestonelaw03.DeedPoints" = some 3 := by kernel_rfl
theorem deedPoints_byText : Rows.deedPointsRow.wfByText (OpenSpec.ofChange Rows.deedPointsSpec) = true := by kernel_rfl
theorem deedPoints_main : Tryz.prog.mainIs = some (true, "2c15769d2791a0233c1ca8c5dd0c07a007421476f3c4882c38e68e5d722c47fb".toList) := by kernel_rfl
theorem deedPoints_standIns : ([27, 3, 3, 3, 3, 3, 28].all fun u => !Tryz.prog.wantsStandIn u) = true := by kernel_rfl
theorem deedPoints_goes : false = Rows.deedPointsRow.goesBy Tryz.prog := by kernel_rfl

theorem deedPoints_holds : Rows.DeedPointsSaid :=
 OpenClaim.holds_of_wide 3 Tryz.f3 rfl rfl rfl rfl rfl rfl rfl ⟨rfl, rfl, rfl, rfl, rfl⟩ rfl rfl rfl rfl rfl deedPoints_named Tryz.func3 deedPoints_closed
  deedPoints_inst deedPoints_wrap
  (fun os started H enc _ => deedPoints_lifted os started H enc)

theorem deedPoints_card : Rows.DeedPointsCardSaid :=
 Claim7.holds_tied_plain_at .later [] [.data, .data, .data, .data, .sentinel, .sentinel, .data, .pinned] true (true, "2c15769d2791a0233c1ca8c5dd0c07a007421476f3c4882c38e68e5d722c47fb") true
  deedPoints_holds (fun _ h => by cases h) deedPoints_byText (fun _ h => by cases h) deedPoints_row_tie rfl ⟨rfl, rfl⟩ deedPoints_main rfl
  (fun f fn hf hfn => by
   obtain rfl : f = 3 := (Option.some.inj (deedPoints_named.symm.trans hf)).symm
   obtain rfl : fn = Tryz.f3 := (Option.some.inj (Tryz.func3.symm.trans hfn)).symm
   exact ⟨joined_looks, fun j t ht => by
    rw [Tryz.params3] at ht
    have hm : t ∈ [27, 3, 3, 3, 3, 3, 28] := by simpa using Array.mem_of_getElem? ht
    exact (show Tryz.prog.wantsStandIn t = false by simpa using List.all_eq_true.1 deedPoints_standIns t hm)⟩)
  deedPoints_goes
#print axioms deedPoints_card

end Go.Proofs.YtccikcpcfdjobaaGreatDoor
