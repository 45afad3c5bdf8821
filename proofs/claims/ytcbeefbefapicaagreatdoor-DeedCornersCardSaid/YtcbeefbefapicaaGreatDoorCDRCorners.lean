/-
  Proved: DeedCorners returns true for every input, and its arguments read behind the call as before: the row, and the card that ties the listed variables to the program's text.
  Conditions: no bound on any input; the variables that the row lists hold what the program's text lays into them.
-/
import Derived.Test.YtcbeefbefapicaaGreatDoorCDLCorners
import Derived.Test.YtcbeefbefapicaaGreatDoorBn17
import Derived.Test.YtcbeefbefapicaaGreatDoorBn01
import Derived.Test.YtcbeefbefapicaaGreatDoorCards
set_option linter.unusedVariables false
set_option linter.unusedSimpArgs false
namespace Go.Proofs.YtcbeefbefapicaaGreatDoor
open Go.ChangeShapes Go.WideShapes Go.ChangeAt Go.RowKit Go.Deep Go.Joins
set_option maxRecDepth 100000

theorem deedCorners_lifted (os : Os) (started : os.Started) (H : Type) (enc : TypeId × Value → H) :
  ReturnsInHanded {} Tryz.checked os 3 .any (fun w args => (Rows.deedCornersSpec.pre enc Tryz.prog Tryz.f3 Rows.deedCornersRow.domain false w args ∧ laidMetH Tryz.prog laidL w) ∧ sizedMet enc Tryz.prog Tryz.f3 (OpenSpec.ofChange Rows.deedCornersSpec) false w args)
   (Rows.deedCornersSpec.post enc Tryz.prog Tryz.f3 false true false false) := by
 refine wrap_both (C := Tryz.checked) (X := fun w _ => laidMetH Tryz.prog laidL w) (fun _ _ _ hh h => h.of_heap hh) Tryz.ownL started (by kernel_rfl) Tryz.func3
  (ChangeSpec.witness_shaped (enc := enc) (C := Tryz.checked) (os := os) (X := fun w _ => laidMetH Tryz.prog laidL w) false (World.laidAll Tryz.prog os laidL) #[.agg #[.slice none 0 0, .slice none 0 0, .slice none 0 0, .slice none 0 0], .int .i64 0, .int .i64 0, .int .i64 0] 8 (World.laidAll_os _ _ _)
   (shaped_door os _) (by kernel_rfl) (by kernel_rfl) (by kernel_rfl) (laid_door os _)) ?_
 intro W base args ds gs before hval0 hW hL hsh
 have hval : ∀ (j : Nat) t v, Tryz.f3.params[j]? = some t → args[j]? = some v → Value.okWide Tryz.prog W .any base t v := hval0
 have hW' := hW
 obtain ⟨p, q, hA0, hV, rfl, hfz, hnd⟩ := hW
 have hA : DataW.TrodAll enc Tryz.prog W 0 (fun _ => true) true Tryz.f3.params.toList args.toList ds p := hA0
 rw [Tryz.params3] at hA hval
 obtain ⟨v0, v1, v2, v3, d0, d1, d2, d3, p0, p1, p2, p3, rfl, rfl, rfl, h0, h1, h2, h3⟩ := trodAll_four hA
 obtain ⟨u0, fd0, rfl, hF0⟩ := open_field (hval 0 27 v0 rfl rfl) h0
 obtain ⟨a1, rfl, _, _, hw1⟩ := open_int Tryz.underlying3 (hval 1 3 v1 rfl rfl) h1
 have hw1 := wfI.le hw1
 obtain ⟨a2, rfl, _, _, hw2⟩ := open_int Tryz.underlying3 (hval 2 3 v2 rfl rfl) h2
 have hw2 := wfI.le hw2
 obtain ⟨a3, rfl, _, _, hw3⟩ := open_int Tryz.underlying3 (hval 3 3 v3 rfl rfl) h3
 have hw3 := wfI.le hw3
 have hE := env_of hsh hL
 have hV2 := hV
 obtain ⟨rfl, rfl⟩ := trodVars_none hV
 have hlt : ∀ x ∈ p0 ++ (p1 ++ (p2 ++ p3)) ++ [], x.block < W.heap.size := fun x hx => by simpa using hW'.lt x (by simpa using hx)
 refine (deedCorners_any u0 fd0 a1 a2 a3 hw3 W hE hF0).mono fun e W' ⟨he, hb⟩ => ?_
 subst he
 exact ⟨_, rfl, _, _, _, [], _, [], hW', trodAll_mk1 (shut_bool Tryz.underlying4 _),
  trodAll_mk4 (Below.trod Tryz.laidOutL (by kernel_rfl) (of_decide_eq_true (by kernel_rfl)) h0 hb (fun x hx => hlt x (by simp [hx])))
   (Below.trod Tryz.laidOutL (by kernel_rfl) (of_decide_eq_true (by kernel_rfl)) h1 hb (fun x hx => hlt x (by simp [hx])))
   (Below.trod Tryz.laidOutL (by kernel_rfl) (of_decide_eq_true (by kernel_rfl)) h2 hb (fun x hx => hlt x (by simp [hx])))
   (Below.trod Tryz.laidOutL (by kernel_rfl) (of_decide_eq_true (by kernel_rfl)) h3 hb (fun x hx => hlt x (by simp [hx]))),
  hb.trodVars Tryz.laidOutL (by kernel_rfl) hV2, hb.frame _, fun h => by cases h⟩

theorem deedCorners_k1 : (Rows.deedCornersRow.wf (OpenSpec.ofChange Rows.deedCornersSpec)) = true := by kernel_rfl
theorem deedCorners_k4 : (Tryz.f3.params.all (Tryz.prog.readableRec ·)) = true := by kernel_rfl
theorem deedCorners_k5 : (namedTie Tryz.prog Rows.deedCornersRow.named Rows.deedCornersSpec.vars) = true := by kernel_rfl
theorem deedCorners_k6 : ((Rows.deedCornersRow.stops == [])) = true := by kernel_rfl
theorem deedCorners_k8 : ((Rows.deedCornersRow.knobs == [])) = true := by kernel_rfl
theorem deedCorners_k10 : ((Rows.deedCornersRow.inPlace == Tryz.prog.inPlace 3)) = true := by kernel_rfl
theorem deedCorners_k11 : ((Rows.deedCornersRow.unfollowed == Tryz.prog.unfollowed 3)) = true := by kernel_rfl
theorem deedCorners_k12 : ((Rows.deedCornersRow.recurses == Tryz.prog.recurses 3)) = true := by kernel_rfl
theorem deedCorners_k13 : ((Rows.deedCornersRow.named == Tryz.prog.varsNamed 3)) = true := by kernel_rfl
theorem deedCorners_k14 : ((Rows.deedCornersRow.maps == (Tryz.f3.params.toList ++ Rows.deedCornersSpec.plain.varTypes Tryz.prog).any (Tryz.prog.mapsRec ·))) = true := by kernel_rfl
theorem deedCorners_k15 : ((Rows.deedCornersRow.ifaces == (Tryz.f3.params.toList ++ Rows.deedCornersSpec.plain.varTypes Tryz.prog).any (Tryz.prog.ifacesRec ·))) = true := by kernel_rfl
theorem deedCorners_k16 : ((Rows.deedCornersRow.mapsOut == Tryz.prog.mapsAmong Tryz.f3.resultTypes.toList)) = true := by kernel_rfl
theorem deedCorners_k17 : ((Rows.deedCornersRow.loops == (Tryz.f3.params.toList ++ Rows.deedCornersSpec.plain.varTypes Tryz.prog).any (Tryz.prog.loopsFrom ·))) = true := by kernel_rfl
theorem deedCorners_k17b : ((Rows.deedCornersRow.wideKeys == (Tryz.f3.params.toList ++ Rows.deedCornersSpec.plain.varTypes Tryz.prog ++ Tryz.f3.resultTypes.toList).any (Tryz.prog.wideKeysFrom ·))) = true := by kernel_rfl
theorem deedCorners_k18 : (Rows.deedCornersSpec.vars.all (Tryz.prog.varReadable ·)) = true := by kernel_rfl
theorem deedCorners_k19 : (Tryz.f3.resultTypes.all (fun t => Tryz.prog.readableRec t && decide (t < Tryz.prog.types.size))) = true := by kernel_rfl
theorem deedCorners_k20 : ((Rows.deedCornersRow.ifacesOut == Tryz.f3.resultTypes.toList.any (Tryz.prog.ifacesRec ·))) = true := by kernel_rfl
theorem deedCorners_k21 : ((Rows.deedCornersRow.loopsOut == Tryz.f3.resultTypes.toList.any (Tryz.prog.loopsFrom ·))) = true := by kernel_rfl
theorem deedCorners_k22 : ((Rows.deedCornersRow.plainKeys == Tryz.prog.plainKeys)) = true := by kernel_rfl
theorem deedCorners_k23 : (Rows.deedCornersRow.shortTexts.isNone) = true := by kernel_rfl
theorem deedCorners_k24b : ((Rows.deedCornersRow.lifted == Tryz.prog.liftsFinal)) = true := by kernel_rfl
theorem deedCorners_k24c : ((Tryz.prog.make == some Rows.deedCornersRow.make)) = true := by kernel_rfl
theorem deedCorners_k25 : ((Rows.deedCornersRow.kinds == (if Rows.deedCornersRow.domain.isEmpty then [] else Tryz.f3.params.toList.map fun t => match Tryz.prog.underlying t with | some (.int k) => some k | _ => none))) = true := by kernel_rfl
theorem deedCorners_k26 : ((Rows.deedCornersRow.pinned == Rows.deedCornersRow.pinnedBy)) = true := by kernel_rfl
theorem deedCorners_k27 : ((Rows.deedCornersRow.veiled == (Tryz.f3.params.toList ++ Rows.deedCornersSpec.plain.varTypes Tryz.prog ++ Tryz.f3.resultTypes.toList).any (Tryz.prog.veiledRec ·))) = true := by kernel_rfl
theorem deedCorners_k28 : (Rows.deedCornersRow.veiledFits Tryz.prog Tryz.f3.params.toList (Tryz.f3.params.toList ++ Rows.deedCornersSpec.plain.varTypes Tryz.prog ++ Tryz.f3.resultTypes.toList)) = true := by kernel_rfl
theorem deedCorners_closed : joinedFacts Tryz.prog 3 Tryz.f3 Rows.deedCornersSpec Rows.deedCornersRow = true := joinedFacts_of deedCorners_k1 joined_k2 joined_k3 deedCorners_k4 deedCorners_k5 deedCorners_k6 joined_k7 deedCorners_k8 joined_k9 deedCorners_k10 deedCorners_k11 deedCorners_k12 deedCorners_k13 deedCorners_k14 deedCorners_k15 deedCorners_k16 deedCorners_k17 deedCorners_k17b deedCorners_k18 deedCorners_k19 deedCorners_k20 deedCorners_k21 deedCorners_k22 deedCorners_k23 joined_k23b joined_k24 deedCorners_k24b deedCorners_k24c deedCorners_k25 deedCorners_k26 deedCorners_k27 deedCorners_k28
theorem deedCorners_inst : Tryz.f3.isInstance Tryz.prog Rows.deedCornersRow.origin Rows.deedCornersRow.targs := of_decide_eq_true (by kernel_rfl)
theorem deedCorners_wrap : Tryz.f3.isWrapper Tryz.prog Rows.deedCornersRow.wrapper Rows.deedCornersRow.mainSum := by unfold Func.isWrapper; rw [if_neg (by decide +kernel)]; exact ⟨rfl, rfl⟩

theorem deedCorners_named : Tryz.prog.funcNamed "merestone/merestonelaw03.DeedCorners" = some 3 := by kernel_rfl
theorem deedCorners_byText : Rows.deedCornersRow.wfByText (OpenSpec.ofChange Rows.deedCornersSpec) = true := by kernel_rfl
theorem deedCorners_main : Tryz.prog.mainIs = some (true, "e7f8b3b9ef7baaf8ab40aedb79785526cfcab93c4854eb52c507d01a6f3baea2".toList) := by kernel_rfl
theorem deedCorners_standIns : ([27, 3, 3, 3].all fun u => !Tryz.prog.wantsStandIn u) = true := by kernel_rfl
theorem deedCorners_goes : false = Rows.deedCornersRow.goesBy Tryz.prog := by kernel_rfl

theorem deedCorners_holds : Rows.DeedCornersSaid :=
 OpenClaim.holds_of_wide 3 Tryz.f3 rfl rfl rfl rfl rfl rfl rfl ⟨rfl, rfl, rfl, rfl, rfl⟩ rfl rfl rfl rfl rfl deedCorners_named Tryz.func3 deedCorners_closed
  deedCorners_inst deedCorners_wrap
  (fun os started H enc _ => deedCorners_lifted os started H enc)

theorem deedCorners_card : Rows.DeedCornersCardSaid :=
 Claim7.holds_tied_plain_at .later [] [.data, .data, .data, .data, .sentinel, .sentinel, .data, .pinned] true (true, "e7f8b3b9ef7baaf8ab40aedb79785526cfcab93c4854eb52c507d01a6f3baea2") true
  deedCorners_holds (fun _ h => by cases h) deedCorners_byText (fun _ h => by cases h) deedCorners_row_tie rfl ⟨rfl, rfl⟩ deedCorners_main rfl
  (fun f fn hf hfn => by
   obtain rfl : f = 3 := (Option.some.inj (deedCorners_named.symm.trans hf)).symm
   obtain rfl : fn = Tryz.f3 := (Option.some.inj (Tryz.func3.symm.trans hfn)).symm
   exact ⟨joined_looks, fun j t ht => by
    rw [Tryz.params3] at ht
    have hm : t ∈ [27, 3, 3, 3] := by simpa using Array.mem_of_getElem? ht
    exact (show Tryz.prog.wantsStandIn t = false by simpa using List.all_eq_true.1 deedCorners_standIns t hm)⟩)
  deedCorners_goes
#print axioms deedCorners_card

end Go.Proofs.YtcbeefbefapicaaGreatDoor
