/-
  Proved: DeedMoves returns true for every input, and its arguments read behind the call as before: the row, and the card that ties the listed variables to the program's text.
  Conditions: no bound on any input; the variables that the row lists hold what the program's text lays into them.
-/
import Derived.Test.YtcbeefbefapicaaGreatDoorCDLMoves
import Derived.Test.YtcbeefbefapicaaGreatDoorBn17
import Derived.Test.YtcbeefbefapicaaGreatDoorBn01
import Derived.Test.YtcbeefbefapicaaGreatDoorCards
set_option linter.unusedVariables false
set_option linter.unusedSimpArgs false
namespace Go.Proofs.YtcbeefbefapicaaGreatDoor
open Go.ChangeShapes Go.WideShapes Go.ChangeAt Go.RowKit Go.Deep Go.Joins
set_option maxRecDepth 100000

theorem deedMoves_lifted (os : Os) (started : os.Started) (H : Type) (enc : TypeId × Value → H) :
  ReturnsInHanded {} Tryz.checked os 7 .any (fun w args => (Rows.deedMovesSpec.pre enc Tryz.prog Tryz.f7 Rows.deedMovesRow.domain false w args ∧ laidMetH Tryz.prog laidL w) ∧ sizedMet enc Tryz.prog Tryz.f7 (OpenSpec.ofChange Rows.deedMovesSpec) false w args)
   (Rows.deedMovesSpec.post enc Tryz.prog Tryz.f7 false true false false) := by
 refine wrap_both (C := Tryz.checked) (X := fun w _ => laidMetH Tryz.prog laidL w) (fun _ _ _ hh h => h.of_heap hh) Tryz.ownL started (by kernel_rfl) Tryz.func7
  (ChangeSpec.witness_shaped (enc := enc) (C := Tryz.checked) (os := os) (X := fun w _ => laidMetH Tryz.prog laidL w) false (World.laidAll Tryz.prog os laidL) #[.agg #[.slice none 0 0, .slice none 0 0, .slice none 0 0, .slice none 0 0], .agg #[.int .u8 0, .int .i64 0, .int .i64 0, .int .i64 0, .int .i64 0, .int .i64 0, .int .i64 0, .int .i64 0, .int .i64 0, .int .i64 0, .int .i64 0, .int .i64 0, .int .i64 0], .int .i64 0] 8 (World.laidAll_os _ _ _)
   (shaped_door os _) (by kernel_rfl) (by kernel_rfl) (by kernel_rfl) (laid_door os _)) ?_
 intro W base args ds gs before hval0 hW hL hsh
 have hval : ∀ (j : Nat) t v, Tryz.f7.params[j]? = some t → args[j]? = some v → Value.okWide Tryz.prog W .any base t v := hval0
 have hW' := hW
 obtain ⟨p, q, hA0, hV, rfl, hfz, hnd⟩ := hW
 have hA : DataW.TrodAll enc Tryz.prog W 0 (fun _ => true) true Tryz.f7.params.toList args.toList ds p := hA0
 rw [Tryz.params7] at hA hval
 obtain ⟨v0, v1, v2, d0, d1, d2, p0, p1, p2, rfl, rfl, rfl, h0, h1, h2⟩ := trodAll_three hA
 obtain ⟨u0, fd0, rfl, hF0⟩ := open_field (hval 0 27 v0 rfl rfl) h0
 obtain ⟨ca1, rfl, hw1⟩ := open_call (hval 1 42 v1 rfl rfl) h1
 obtain ⟨a2, rfl, _, _, hw2⟩ := open_int Tryz.underlying3 (hval 2 3 v2 rfl rfl) h2
 have hw2 := wfI.le hw2
 have hE := env_of hsh hL
 have hV2 := hV
 obtain ⟨rfl, rfl⟩ := trodVars_none hV
 have hlt : ∀ x ∈ p0 ++ (p1 ++ p2) ++ [], x.block < W.heap.size := fun x hx => by simpa using hW'.lt x (by simpa using hx)
 refine (deedMoves_any u0 fd0 ca1 a2 hw2 W hE hF0).mono fun e W' ⟨he, hb⟩ => ?_
 subst he
 exact ⟨_, rfl, _, _, _, [], _, [], hW', trodAll_mk1 (shut_bool Tryz.underlying4 _),
  trodAll_mk3 (Below.trod Tryz.laidOutL (by kernel_rfl) (of_decide_eq_true (by kernel_rfl)) h0 hb (fun x hx => hlt x (by simp [hx])))
   (Below.trod Tryz.laidOutL (by kernel_rfl) (of_decide_eq_true (by kernel_rfl)) h1 hb (fun x hx => hlt x (by simp [hx])))
   (Below.trod Tryz.laidOutL (by kernel_rfl) (of_decide_eq_true (by kernel_rfl)) h2 hb (fun x hx => hlt x (by simp [hx]))),
  hb.trodVars Tryz.laidOutL (by kernel_rfl) hV2, hb.frame _, fun h => by cases h⟩

theorem deedMoves_k1 : (Rows.deedMovesRow.wf (OpenSpec.ofChange Rows.deedMovesSpec)) = true := by kernel_rfl
theorem deedMoves_k4 : (Tryz.f7.params.all (Tryz.prog.readableRec ·)) = true := by kernel_rfl
theorem deedMoves_k5 : (namedTie Tryz.prog Rows.deedMovesRow.named Rows.deedMovesSpec.vars) = true := by kernel_rfl
theorem deedMoves_k6 : ((Rows.deedMovesRow.stops == [])) = true := by kernel_rfl
theorem deedMoves_k8 : ((Rows.deedMovesRow.knobs == [])) = true := by kernel_rfl
theorem deedMoves_k10 : ((Rows.deedMovesRow.inPlace == Tryz.prog.inPlace 7)) = true := by kernel_rfl
theorem deedMoves_k11 : ((Rows.deedMovesRow.unfollowed == Tryz.prog.unfollowed 7)) = true := by kernel_rfl
theorem deedMoves_k12 : ((Rows.deedMovesRow.recurses == Tryz.prog.recurses 7)) = true := by kernel_rfl
theorem deedMoves_k13 : ((Rows.deedMovesRow.named == Tryz.prog.varsNamed 7)) = true := by kernel_rfl
theorem deedMoves_k14 : ((Rows.deedMovesRow.maps == (Tryz.f7.params.toList ++ Rows.deedMovesSpec.plain.varTypes Tryz.prog).any (Tryz.prog.mapsRec ·))) = true := by kernel_rfl
theorem deedMoves_k15 : ((Rows.deedMovesRow.ifaces == (Tryz.f7.params.toList ++ Rows.deedMovesSpec.plain.varTypes Tryz.prog).any (Tryz.prog.ifacesRec ·))) = true := by kernel_rfl
theorem deedMoves_k16 : ((Rows.deedMovesRow.mapsOut == Tryz.prog.mapsAmong Tryz.f7.resultTypes.toList)) = true := by kernel_rfl
theorem deedMoves_k17 : ((Rows.deedMovesRow.loops == (Tryz.f7.params.toList ++ Rows.deedMovesSpec.plain.varTypes Tryz.prog).any (Tryz.prog.loopsFrom ·))) = true := by kernel_rfl
theorem deedMoves_k17b : ((Rows.deedMovesRow.wideKeys == (Tryz.f7.params.toList ++ Rows.deedMovesSpec.plain.varTypes Tryz.prog ++ Tryz.f7.resultTypes.toList).any (Tryz.prog.wideKeysFrom ·))) = true := by kernel_rfl
theorem deedMoves_k18 : (Rows.deedMovesSpec.vars.all (Tryz.prog.varReadable ·)) = true := by kernel_rfl
theorem deedMoves_k19 : (Tryz.f7.resultTypes.all (fun t => Tryz.prog.readableRec t && decide (t < Tryz.prog.types.size))) = true := by kernel_rfl
theorem deedMoves_k20 : ((Rows.deedMovesRow.ifacesOut == Tryz.f7.resultTypes.toList.any (Tryz.prog.ifacesRec ·))) = true := by kernel_rfl
theorem deedMoves_k21 : ((Rows.deedMovesRow.loopsOut == Tryz.f7.resultTypes.toList.any (Tryz.prog.loopsFrom ·))) = true := by kernel_rfl
theorem deedMoves_k22 : ((Rows.deedMovesRow.plainKeys == Tryz.prog.plainKeys)) = true := by kernel_rfl
theorem deedMoves_k23 : (Rows.deedMovesRow.shortTexts.isNone) = true := by kernel_rfl
theorem deedMoves_k24b : ((Rows.deedMovesRow.lifted == Tryz.prog.liftsFinal)) = true := by kernel_rfl
theorem deedMoves_k24c : ((Tryz.prog.make == some Rows.deedMovesRow.make)) = true := by kernel_rfl
theorem deedMoves_k25 : ((Rows.deedMovesRow.kinds == (if Rows.deedMovesRow.domain.isEmpty then [] else Tryz.f7.params.toList.map fun t => match Tryz.prog.underlying t with | some (.int k) => some k | _ => none))) = true := by kernel_rfl
theorem deedMoves_k26 : ((Rows.deedMovesRow.pinned == Rows.deedMovesRow.pinnedBy)) = true := by kernel_rfl
theorem deedMoves_k27 : ((Rows.deedMovesRow.veiled == (Tryz.f7.params.toList ++ Rows.deedMovesSpec.plain.varTypes Tryz.prog ++ Tryz.f7.resultTypes.toList).any (Tryz.prog.veiledRec ·))) = true := by kernel_rfl
theorem deedMoves_k28 : (Rows.deedMovesRow.veiledFits Tryz.prog Tryz.f7.params.toList (Tryz.f7.params.toList ++ Rows.deedMovesSpec.plain.varTypes Tryz.prog ++ Tryz.f7.resultTypes.toList)) = true := by kernel_rfl
theorem deedMoves_closed : joinedFacts Tryz.prog 7 Tryz.f7 Rows.deedMovesSpec Rows.deedMovesRow = true := joinedFacts_of deedMoves_k1 joined_k2 joined_k3 deedMoves_k4 deedMoves_k5 deedMoves_k6 joined_k7 deedMoves_k8 joined_k9 deedMoves_k10 deedMoves_k11 deedMoves_k12 deedMoves_k13 deedMoves_k14 deedMoves_k15 deedMoves_k16 deedMoves_k17 deedMoves_k17b deedMoves_k18 deedMoves_k19 deedMoves_k20 deedMoves_k21 deedMoves_k22 deedMoves_k23 joined_k23b joined_k24 deedMoves_k24b deedMoves_k24c deedMoves_k25 deedMoves_k26 deedMoves_k27 deedMoves_k28
theorem deedMoves_inst : Tryz.f7.isInstance Tryz.prog Rows.deedMovesRow.origin Rows.deedMovesRow.targs := of_decide_eq_true (by kernel_rfl)
theorem deedMoves_wrap : Tryz.f7.isWrapper Tryz.prog Rows.deedMovesRow.wrapper Rows.deedMovesRow.mainSum := by unfold Func.isWrapper; rw [if_neg (by decide +kernel)]; exact ⟨rfl, rfl⟩

theorem deedMoves_named : Tryz.prog.funcNamed "merestone/merestonelaw03.DeedMoves" = some 7 := by kernel_rfl
theorem deedMoves_byText : Rows.deedMovesRow.wfByText (OpenSpec.ofChange Rows.deedMovesSpec) = true := by kernel_rfl
theorem deedMoves_main : Tryz.prog.mainIs = some (true, "e7f8b3b9ef7baaf8ab40aedb79785526cfcab93c4854eb52c507d01a6f3baea2".toList) := by kernel_rfl
theorem deedMoves_standIns : ([27, 42, 3].all fun u => !Tryz.prog.wantsStandIn u) = true := by kernel_rfl
theorem deedMoves_goes : false = Rows.deedMovesRow.goesBy Tryz.prog := by kernel_rfl

theorem deedMoves_holds : Rows.DeedMovesSaid :=
 OpenClaim.holds_of_wide 7 Tryz.f7 rfl rfl rfl rfl rfl rfl rfl ⟨rfl, rfl, rfl, rfl, rfl⟩ rfl rfl rfl rfl rfl deedMoves_named Tryz.func7 deedMoves_closed
  deedMoves_inst deedMoves_wrap
  (fun os started H enc _ => deedMoves_lifted os started H enc)

theorem deedMoves_card : Rows.DeedMovesCardSaid :=
 Claim7.holds_tied_plain_at .later [] [.data, .data, .data, .data, .sentinel, .sentinel, .data, .pinned] true (true, "e7f8b3b9ef7baaf8ab40aedb79785526cfcab93c4854eb52c507d01a6f3baea2") true
  deedMoves_holds (fun _ h => by cases h) deedMoves_byText (fun _ h => by cases h) deedMoves_row_tie rfl ⟨rfl, rfl⟩ deedMoves_main rfl
  (fun f fn hf hfn => by
   obtain rfl : f = 7 := (Option.some.inj (deedMoves_named.symm.trans hf)).symm
   obtain rfl : fn = Tryz.f7 := (Option.some.inj (Tryz.func7.symm.trans hfn)).symm
   exact ⟨joined_looks, fun j t ht => by
    rw [Tryz.params7] at ht
    have hm : t ∈ [27, 42, 3] := by simpa using Array.mem_of_getElem? ht
    exact (show Tryz.prog.wantsStandIn t = false by simpa using List.all_eq_true.1 deedMoves_standIns t hm)⟩)
  deedMoves_goes
#print axioms deedMoves_card

end Go.Proofs.YtcbeefbefapicaaGreatDoor
