/-
  Proved: DeedFields returns true for every input, and its arguments read behind the call as before: the row, and the card that ties the listed variables to the program's text.
  Conditions: no bound on any input; the variables that the row lists hold what the program's text lays into them.
-/
import Derived.Test.YtccikcpcfdjobaaGreatDoorCDLFields
import Derived.Test.YtccikcpcfdjobaaGreatDoorBr43
import Derived.Test.YtccikcpcfdjobaaGreatDoorCards
import Derived.Test.YtccikcpcfdjobaaGreatDoorBz
set_option linter.unusedVariables false
set_option linter.unusedSimpArgs false
set_option maxHeartbeats 8000000
set_option maxRecDepth 100000
namespace Go.Proofs.YtccikcpcfdjobaaGreatDoor
section
open Go.ChangeShapes Go.WideShapes Go.ChangeAt Go.RowKit Go.Deep Go.Joins

theorem deedFields_lifted (os : Os) (started : os.Started) (H : Type) (enc : TypeId × Value → H) :
  ReturnsInHanded {} Tryz.checked os 6 .any (fun w args => (Rows.deedFieldsSpec.pre enc Tryz.prog Tryz.f6 Rows.deedFieldsRow.domain false w args ∧ laidMetH Tryz.prog laidL w) ∧ sizedMet enc Tryz.prog Tryz.f6 (OpenSpec.ofChange Rows.deedFieldsSpec) false w args)
   (Rows.deedFieldsSpec.post enc Tryz.prog Tryz.f6 false true false false) := by
 refine wrap_both (C := Tryz.checked) (X := fun w _ => laidMetH Tryz.prog laidL w) (fun _ _ _ hh h => h.of_heap hh) Tryz.ownL started (by kernel_rfl) Tryz.func6
  (ChangeSpec.witness_shaped (enc := enc) (C := Tryz.checked) (os := os) (X := fun w _ => laidMetH Tryz.prog laidL w) false (World.laidAll Tryz.prog os laidL) #[.agg #[.slice none 0 0, .slice none 0 0, .slice none 0 0, .slice none 0 0]] 8 (World.laidAll_os _ _ _)
   (shaped_door os _) (by kernel_rfl) (by kernel_rfl) (by kernel_rfl) (laid_door os _)) ?_
 intro W base args ds gs before hval0 hW hL hsh
 have hval : ∀ (j : Nat) t v, Tryz.f6.params[j]? = some t → args[j]? = some v → Value.okWide Tryz.prog W .any base t v := hval0
 have hW' := hW
 obtain ⟨p, q, hA0, hV, rfl, hfz, hnd⟩ := hW
 have hA : DataW.TrodAll enc Tryz.prog W 0 (fun _ => true) true Tryz.f6.params.toList args.toList ds p := hA0
 rw [Tryz.params6] at hA hval
 obtain ⟨v0, d0, rfl, rfl, h0⟩ := trodAll_one hA
 obtain ⟨u0, fd0, rfl, hF0⟩ := open_field (hval 0 27 v0 rfl rfl) h0
 have hE := env_of hsh hL
 have hV2 := hV
 obtain ⟨rfl, rfl⟩ := trodVars_none hV
 have hlt : ∀ x ∈ p ++ [], x.block < W.heap.size := fun x hx => by simpa using hW'.lt x (by simpa using hx)
 refine (deedFields_any u0 fd0 W hE hF0).mono fun e W' ⟨he, hb⟩ => ?_
 subst he
 exact ⟨_, rfl, _, _, _, [], _, [], hW', trodAll_mk1 (shut_bool Tryz.underlying4 _),
  trodAll_mk1 (Below.trod Tryz.laidOutL (by kernel_rfl) (of_decide_eq_true (by kernel_rfl)) h0 hb (fun x hx => hlt x (by simp [hx]))),
  hb.trodVars Tryz.laidOutL (by kernel_rfl) hV2, hb.frame _, fun h => by cases h⟩

theorem deedFields_k1 : (Rows.deedFieldsRow.wf (OpenSpec.ofChange Rows.deedFieldsSpec)) = true := by kernel_rfl
theorem deedFields_k4 : (Tryz.f6.params.all (Tryz.prog.readableRec ·)) = true := by kernel_rfl
theorem deedFields_k5 : (namedTie Tryz.prog Rows.deedFieldsRow.named Rows.deedFieldsSpec.vars) = true := by kernel_rfl
theorem deedFields_k6 : ((Rows.deedFieldsRow.stops == [])) = true := by kernel_rfl
theorem deedFields_k8 : ((Rows.deedFieldsRow.knobs == [])) = true := by kernel_rfl
theorem deedFields_k10 : ((Rows.deedFieldsRow.inPlace == Tryz.prog.inPlace 6)) = true := by kernel_rfl
theorem deedFields_k11 : ((Rows.deedFieldsRow.unfollowed == Tryz.prog.unfollowed 6)) = true := by kernel_rfl
theorem deedFields_k12 : ((Rows.deedFieldsRow.recurses == Tryz.prog.recurses 6)) = true := by kernel_rfl
theorem deedFields_k13 : ((Rows.deedFieldsRow.named == Tryz.prog.varsNamed 6)) = true := by kernel_rfl
theorem deedFields_k14 : ((Rows.deedFieldsRow.maps == (Tryz.f6.params.toList ++ Rows.deedFieldsSpec.plain.varTypes Tryz.prog).any (Tryz.prog.mapsRec ·))) = true := by kernel_rfl
theorem deedFields_k15 : ((Rows.deedFieldsRow.ifaces == (Tryz.f6.params.toList ++ Rows.deedFieldsSpec.plain.varTypes Tryz.prog).any (Tryz.prog.ifacesRec ·))) = true := by kernel_rfl
theorem deedFields_k16 : ((Rows.deedFieldsRow.mapsOut == Tryz.prog.mapsAmong Tryz.f6.resultTypes.toList)) = true := by kernel_rfl
theorem deedFields_k17 : ((Rows.deedFieldsRow.loops == (Tryz.f6.params.toList ++ Rows.deedFieldsSpec.plain.varTypes Tryz.prog).any (Tryz.prog.loopsFrom ·))) = true := by kernel_rfl
theorem deedFields_k17b : ((Rows.deedFieldsRow.wideKeys == (Tryz.f6.params.toList ++ Rows.deedFieldsSpec.plain.varTypes Tryz.prog ++ Tryz.f6.resultTypes.toList).any (Tryz.prog.wideKeysFrom ·))) = true := by kernel_rfl
theorem deedFields_k18 : (Rows.deedFieldsSpec.vars.all (Tryz.prog.varReadable ·)) = true := by kernel_rfl
theorem deedFields_k19 : (Tryz.f6.resultTypes.all (fun t => Tryz.prog.readableRec t && decide (t < Tryz.prog.types.size))) = true := by kernel_rfl
theorem deedFields_k20 : ((Rows.deedFieldsRow.ifacesOut == Tryz.f6.resultTypes.toList.any (Tryz.prog.ifacesRec ·))) = true := by kernel_rfl
theorem deedFields_k21 : ((Rows.deedFieldsRow.loopsOut == Tryz.f6.resultTypes.toList.any (Tryz.prog.loopsFrom ·))) = true := by kernel_rfl
theorem deedFields_k22 : ((Rows.deedFieldsRow.plainKeys == Tryz.prog.plainKeys)) = true := by kernel_rfl
theorem deedFields_k23 : (Rows.deedFieldsRow.shortTexts.isNone) = true := by kernel_rfl
theorem deedFields_k24b : ((Rows.deedFieldsRow.lifted == Tryz.prog.liftsFinal)) = true := by kernel_rfl
theorem deedFields_k24c : ((Tryz.prog.make == some Rows.deedFieldsRow.make)) = true := by kernel_rfl
theorem deedFields_k25 : ((Rows.deedFieldsRow.kinds == (if Rows.deedFieldsRow.domain.isEmpty then [] else Tryz.f6.params.toList.map fun t => match Tryz.prog.underlying t with | some (.int k) => some k | _ => none))) = true := by kernel_rfl
theorem deedFields_k26 : ((Rows.deedFieldsRow.pinned == Rows.deedFieldsRow.pinnedBy)) = true := by kernel_rfl
theorem deedFields_k27 : ((Rows.deedFieldsRow.veiled == (Tryz.f6.params.toList ++ Rows.deedFieldsSpec.plain.varTypes Tryz.prog ++ Tryz.f6.resultTypes.toList).any (Tryz.prog.veiledRec ·))) = true := by kernel_rfl
theorem deedFields_k28 : (Rows.deedFieldsRow.veiledFits Tryz.prog Tryz.f6.params.toList (Tryz.f6.params.toList ++ Rows.deedFieldsSpec.plain.varTypes Tryz.prog ++ Tryz.f6.resultTypes.toList)) = true := by kernel_rfl
theorem deedFields_closed : joinedFacts Tryz.prog 6 Tryz.f6 Rows.deedFieldsSpec Rows.deedFieldsRow = true := joinedFacts_of deedFields_k1 joined_k2 joined_k3 deedFields_k4 deedFields_k5 deedFields_k6 joined_k7 deedFields_k8 joined_k9 deedFields_k10 deedFields_k11 deedFields_k12 deedFields_k13 deedFields_k14 deedFields_k15 deedFields_k16 deedFields_k17 deedFields_k17b deedFields_k18 deedFields_k19 deedFields_k20 deedFields_k21 deedFields_k22 deedFields_k23 joined_k23b joined_k24 deedFields_k24b deedFields_k24c deedFields_k25 deedFields_k26 deedFields_k27 deedFields_k28
theorem deedFields_inst : Tryz.f6.isInstance Tryz.prog Rows.deedFieldsRow.origin Rows.deedFieldsRow.targs := of_decide_eq_true (by kernel_rfl)
theorem deedFields_wrap : Tryz.f6.isWrapper Tryz.prog Rows.deedFieldsRow.wrapper Rows.deedFieldsRow.mainSum := by unfold Func.isWrapper; rw [if_neg (by decide +kernel)]; exact ⟨rfl, rfl⟩

theorem deedFields_named : Tryz.prog.funcNamed "merestone/merestonelaw03.DeedFields" = some 6 := by kernel_rfl
theorem deedFields_byText : Rows.deedFieldsRow.wfByText (OpenSpec.ofChange Rows.deedFieldsSpec) = true := by kernel_rfl
theorem deedFields_main : Tryz.prog.mainIs = some (true, "2c15769d2791a0233c1ca8c5dd0c07a007421476f3c4882c38e68e5d722c47fb".toList) := by kernel_rfl
theorem deedFields_standIns : ([27].all fun u => !Tryz.prog.wantsStandIn u) = true := by kernel_rfl
theorem deedFields_goes : false = Rows.deedFieldsRow.goesBy Tryz.prog := by kernel_rfl

theorem deedFields_holds : Rows.DeedFieldsSaid :=
 OpenClaim.holds_of_wide 6 Tryz.f6 rfl rfl rfl rfl rfl rfl rfl ⟨rfl, rfl, rfl, rfl, rfl⟩ rfl rfl rfl rfl rfl deedFields_named Tryz.func6 deedFields_closed
  deedFields_inst deedFields_wrap
  (fun os started H enc _ => deedFields_lifted os started H enc)

theorem deedFields_card : Rows.DeedFieldsCardSaid :=
 Claim7.holds_tied_plain_at .later [] [.data, .data, .data, .data, .sentinel, .sentinel, .data, .pinned] true (true, "2c15769d2791a0233c1ca8c5dd0c07a007421476f3c4882c38e68e5d722c47fb") true
  deedFields_holds (fun _ h => by cases h) deedFields_byText (fun _ h => by cases h) deedFields_row_tie rfl ⟨rfl, rfl⟩ deedFields_main rfl
  (fun f fn hf hfn => by
   obtain rfl : f = 6 := (Option.some.inj (deedFields_named.symm.trans hf)).symm
   obtain rfl : fn = Tryz.f6 := (Option.some.inj (Tryz.func6.symm.trans hfn)).symm
   exact ⟨joined_looks, fun j t ht => by
    rw [Tryz.params6] at ht
    have hm : t ∈ [27] := by simpa using Array.mem_of_getElem? ht
    exact (show Tryz.prog.wantsStandIn t = false by simpa using List.all_eq_true.1 deedFields_standIns t hm)⟩)
  deedFields_goes
#print axioms deedFields_card

end
end Go.Proofs.YtccikcpcfdjobaaGreatDoor
