/-
  Proved: DeedCalls returns true for every input, and its arguments read behind the call as before: the row, and the card that ties the listed variables to the program's text.
  Conditions: no bound on any input; the variables that the row lists hold what the program's text lays into them.
-/
import Derived.Test.YtccikcpcfdjobaaGreatDoorCDLCalls
import Derived.Test.YtccikcpcfdjobaaGreatDoorBq11
import Derived.Test.YtccikcpcfdjobaaGreatDoorBq34
import Derived.Test.YtccikcpcfdjobaaGreatDoorCards
import Derived.Test.YtccikcpcfdjobaaGreatDoorBz
set_option linter.unusedVariables false
set_option linter.unusedSimpArgs false
set_option maxHeartbeats 8000000
set_option maxRecDepth 100000
namespace Go.Proofs.YtccikcpcfdjobaaGreatDoor
section
open Go.ChangeShapes Go.WideShapes Go.ChangeAt Go.RowKit Go.Deep Go.Joins

theorem deedCalls_lifted (os : Os) (started : os.Started) (H : Type) (enc : TypeId × Value → H) :
  ReturnsInHanded {} Tryz.checked os 5 .any (fun w args => (Rows.deedCallsSpec.pre enc Tryz.prog Tryz.f5 Rows.deedCallsRow.domain false w args ∧ laidMetH Tryz.prog laidL w) ∧ sizedMet enc Tryz.prog Tryz.f5 (OpenSpec.ofChange Rows.deedCallsSpec) false w args)
   (Rows.deedCallsSpec.post enc Tryz.prog Tryz.f5 false true false false) := by
 refine wrap_both (C := Tryz.checked) (X := fun w _ => laidMetH Tryz.prog laidL w) (fun _ _ _ hh h => h.of_heap hh) Tryz.ownL started (by kernel_rfl) Tryz.func5
  (ChangeSpec.witness_shaped (enc := enc) (C := Tryz.checked) (os := os) (X := fun w _ => laidMetH Tryz.prog laidL w) false (World.laidAll Tryz.prog os laidL) #[.agg #[.slice none 0 0, .slice none 0 0, .slice none 0 0, .slice none 0 0], .agg #[.int .u8 0, .int .i64 0, .int .i64 0, .int .i64 0, .int .i64 0, .int .i64 0, .int .i64 0, .int .i64 0, .int .i64 0, .int .i64 0, .int .i64 0, .int .i64 0, .int .i64 0], .int .i64 0] 8 (World.laidAll_os _ _ _)
   (shaped_door os _) (by kernel_rfl) (by kernel_rfl) (by kernel_rfl) (laid_door os _)) ?_
 intro W base args ds gs before hval0 hW hL hsh
 have hval : ∀ (j : Nat) t v, Tryz.f5.params[j]? = some t → args[j]? = some v → Value.okWide Tryz.prog W .any base t v := hval0
 have hW' := hW
 obtain ⟨p, q, hA0, hV, rfl, hfz, hnd⟩ := hW
 have hA : DataW.TrodAll enc Tryz.prog W 0 (fun _ => true) true Tryz.f5.params.toList args.toList ds p := hA0
 rw [Tryz.params5] at hA hval
 obtain ⟨v0, v1, v2, d0, d1, d2, p0, p1, p2, rfl, rfl, rfl, h0, h1, h2⟩ := trodAll_three hA
 obtain ⟨u0, fd0, rfl, hF0⟩ := open_field (hval 0 27 v0 rfl rfl) h0
 obtain ⟨ca1, rfl, hw1⟩ := open_call (hval 1 48 v1 rfl rfl) h1
 obtain ⟨a2, rfl, _, _, hw2⟩ := open_int Tryz.underlying3 (hval 2 3 v2 rfl rfl) h2
 have hw2 := wfI.le hw2
 have hE := env_of hsh hL
 have hV2 := hV
 obtain ⟨rfl, rfl⟩ := trodVars_none hV
 have hlt : ∀ x ∈ p0 ++ (p1 ++ p2) ++ [], x.block < W.heap.size := fun x hx => by simpa using hW'.lt x (by simpa using hx)
 refine (deedCalls_any u0 fd0 ca1 a2 W hE hF0).mono fun e W' ⟨he, hb⟩ => ?_
 subst he
 exact ⟨_, rfl, _, _, _, [], _, [], hW', trodAll_mk1 (shut_bool Tryz.underlying4 _),
  trodAll_mk3 (Below.trod Tryz.laidOutL (by kernel_rfl) (of_decide_eq_true (by kernel_rfl)) h0 hb (fun x hx => hlt x (by simp [hx])))
   (Below.trod Tryz.laidOutL (by kernel_rfl) (of_decide_eq_true (by kernel_rfl)) h1 hb (fun x hx => hlt x (by simp [hx])))
   (Below.trod Tryz.laidOutL (by kernel_rfl) (of_decide_eq_true (by kernel_rfl)) h2 hb (fun x hx => hlt x (by simp [hx]))),
  hb.trodVars Tryz.laidOutL (by kernel_rfl) hV2, hb.frame _, fun h => by cases h⟩

theorem deedCalls_k1 : (Rows.deedCallsRow.wf (OpenSpec.ofChange Rows.deedCallsSpec)) = true := by kernel_rfl
theorem deedCalls_k4 : (Tryz.f5.params.all (Tryz.prog.readableRec ·)) = true := by kernel_rfl
theorem deedCalls_k5 : (namedTie Tryz.prog Rows.deedCallsRow.named Rows.deedCallsSpec.vars) = true := by kernel_rfl
theorem deedCalls_k6 : ((Rows.deedCallsRow.stops == [])) = true := by kernel_rfl
theorem deedCalls_k8 : ((Rows.deedCallsRow.knobs == [])) = true := by kernel_rfl
theorem deedCalls_k10 : ((Rows.deedCallsRow.inPlace == Tryz.prog.inPlace 5)) = true := by kernel_rfl
theorem deedCalls_k11 : ((Rows.deedCallsRow.unfollowed == Tryz.prog.unfollowed 5)) = true := by kernel_rfl
theorem deedCalls_k12 : ((Rows.deedCallsRow.recurses == Tryz.prog.recurses 5)) = true := by kernel_rfl
theorem deedCalls_k13 : ((Rows.deedCallsRow.named == Tryz.prog.varsNamed 5)) = true := by kernel_rfl
theorem deedCalls_k14 : ((Rows.deedCallsRow.maps == (Tryz.f5.params.toList ++ Rows.deedCallsSpec.plain.varTypes Tryz.prog).any (Tryz.prog.mapsRec ·))) = true := by kernel_rfl
theorem deedCalls_k15 : ((Rows.deedCallsRow.ifaces == (Tryz.f5.params.toList ++ Rows.deedCallsSpec.plain.varTypes Tryz.prog).any (Tryz.prog.ifacesRec ·))) = true := by kernel_rfl
theorem deedCalls_k16 : ((Rows.deedCallsRow.mapsOut == Tryz.prog.mapsAmong Tryz.f5.resultTypes.toList)) = true := by kernel_rfl
theorem deedCalls_k17 : ((Rows.deedCallsRow.loops == (Tryz.f5.params.toList ++ Rows.deedCallsSpec.plain.varTypes Tryz.prog).any (Tryz.prog.loopsFrom ·))) = true := by kernel_rfl
theorem deedCalls_k17b : ((Rows.deedCallsRow.wideKeys == (Tryz.f5.params.toList ++ Rows.deedCallsSpec.plain.varTypes Tryz.prog ++ Tryz.f5.resultTypes.toList).any (Tryz.prog.wideKeysFrom ·))) = true := by kernel_rfl
theorem deedCalls_k18 : (Rows.deedCallsSpec.vars.all (Tryz.prog.varReadable ·)) = true := by kernel_rfl
theorem deedCalls_k19 : (Tryz.f5.resultTypes.all (fun t => Tryz.prog.readableRec t && decide (t < Tryz.prog.types.size))) = true := by kernel_rfl
theorem deedCalls_k20 : ((Rows.deedCallsRow.ifacesOut == Tryz.f5.resultTypes.toList.any (Tryz.prog.ifacesRec ·))) = true := by kernel_rfl
theorem deedCalls_k21 : ((Rows.deedCallsRow.loopsOut == Tryz.f5.resultTypes.toList.any (Tryz.prog.loopsFrom ·))) = true := by kernel_rfl
theorem deedCalls_k22 : ((Rows.deedCallsRow.plainKeys == Tryz.prog.plainKeys)) = true := by kernel_rfl
theorem deedCalls_k23 : (Rows.deedCallsRow.shortTexts.isNone) = true := by kernel_rfl
theorem deedCalls_k24b : ((Rows.deedCallsRow.lifted == Tryz.prog.liftsFinal)) = true := by kernel_rfl
theorem deedCalls_k24c : ((Tryz.prog.make == some Rows.deedCallsRow.make)) = true := by kernel_rfl
theorem deedCalls_k25 : ((Rows.deedCallsRow.kinds == (if Rows.deedCallsRow.domain.isEmpty then [] else Tryz.f5.params.toList.map fun t => match Tryz.prog.underlying t with | some (.int k) => some k | _ => none))) = true := by kernel_rfl
theorem deedCalls_k26 : ((Rows.deedCallsRow.pinned == Rows.deedCallsRow.pinnedBy)) = true := by kernel_rfl
theorem deedCalls_k27 : ((Rows.deedCallsRow.veiled == (Tryz.f5.params.toList ++ Rows.deedCallsSpec.plain.varTypes Tryz.prog ++ Tryz.f5.resultTypes.toList).any (Tryz.prog.veiledRec ·))) = true := by kernel_rfl
theorem deedCalls_k28 : (Rows.deedCallsRow.veiledFits Tryz.prog Tryz.f5.params.toList (Tryz.f5.params.toList ++ Rows.deedCallsSpec.plain.varTypes Tryz.prog ++ Tryz.f5.resultTypes.toList)) = true := by kernel_rfl
theorem deedCalls_closed : joinedFacts Tryz.prog 5 Tryz.f5 Rows.deedCallsSpec Rows.deedCallsRow = true := joinedFacts_of deedCalls_k1 joined_k2 joined_k3 deedCalls_k4 deedCalls_k5 deedCalls_k6 joined_k7 deedCalls_k8 joined_k9 deedCalls_k10 deedCalls_k11 deedCalls_k12 deedCalls_k13 deedCalls_k14 deedCalls_k15 deedCalls_k16 deedCalls_k17 deedCalls_k17b deedCalls_k18 deedCalls_k19 deedCalls_k20 deedCalls_k21 deedCalls_k22 deedCalls_k23 joined_k23b joined_k24 deedCalls_k24b deedCalls_k24c deedCalls_k25 deedCalls_k26 deedCalls_k27 deedCalls_k28
theorem deedCalls_inst : Tryz.f5.isInstance Tryz.prog Rows.deedCallsRow.origin Rows.deedCallsRow.targs := of_decide_eq_true (by kernel_rfl)
theorem deedCalls_wrap : Tryz.f5.isWrapper Tryz.prog Rows.deedCallsRow.wrapper Rows.deedCallsRow.mainSum := by unfold Func.isWrapper; rw [if_neg (by decide +kernel)]; exact ⟨rfl, rfl⟩

theorem deedCalls_named : Tryz.prog.funcNamed "merestone/merestonelaw03.DeedCalls" = some 5 := by kernel_rfl
theorem deedCalls_byText : Rows.deedCallsRow.wfByText (OpenSpec.ofChange Rows.deedCallsSpec) = true := by kernel_rfl
theorem deedCalls_main : Tryz.prog.mainIs = some (true, "2c15769d2791a0233c1ca8c5dd0c07a007421476f3c4882c38e68e5d722c47fb".toList) := by kernel_rfl
theorem deedCalls_standIns : ([27, 48, 3].all fun u => !Tryz.prog.wantsStandIn u) = true := by kernel_rfl
theorem deedCalls_goes : false = Rows.deedCallsRow.goesBy Tryz.prog := by kernel_rfl

theorem deedCalls_holds : Rows.DeedCallsSaid :=
 OpenClaim.holds_of_wide 5 Tryz.f5 rfl rfl rfl rfl rfl rfl rfl ⟨rfl, rfl, rfl, rfl, rfl⟩ rfl rfl rfl rfl rfl deedCalls_named Tryz.func5 deedCalls_closed
  deedCalls_inst deedCalls_wrap
  (fun os started H enc _ => deedCalls_lifted os started H enc)

theorem deedCalls_card : Rows.DeedCallsCardSaid :=
 Claim7.holds_tied_plain_at .later [] [.data, .data, .data, .data, .sentinel, .sentinel, .data, .pinned] true (true, "2c15769d2791a0233c1ca8c5dd0c07a007421476f3c4882c38e68e5d722c47fb") true
  deedCalls_holds (fun _ h => by cases h) deedCalls_byText (fun _ h => by cases h) deedCalls_row_tie rfl ⟨rfl, rfl⟩ deedCalls_main rfl
  (fun f fn hf hfn => by
   obtain rfl : f = 5 := (Option.some.inj (deedCalls_named.symm.trans hf)).symm
   obtain rfl : fn = Tryz.f5 := (Option.some.inj (Tryz.func5.symm.trans hfn)).symm
   exact ⟨joined_looks, fun j t ht => by
    rw [Tryz.params5] at ht
    have hm : t ∈ [27, 48, 3] := by simpa using Array.mem_of_getElem? ht
    exact (show Tryz.prog.wantsStandIn t = false by simpa using List.all_eq_true.1 deedCalls_standIns t hm)⟩)
  deedCalls_goes
#print axioms deedCalls_card

end
end Go.Proofs.YtccikcpcfdjobaaGreatDoor
