/-
  Proved: DeedMeans returns true for every input, and its arguments read behind the call as before: the row, and the card that ties the listed variables to the program's text.
  Conditions: no bound on any input; the variables that the row lists hold what the program's text lays into them.
-/
import Derived.Test.YtcbeefbefapicaaGreatDoorCDLMeans
import Derived.Test.YtcbeefbefapicaaGreatDoorBn17
import Derived.Test.YtcbeefbefapicaaGreatDoorBn01
import Derived.Test.YtcbeefbefapicaaGreatDoorCards
set_option linter.unusedVariables false
set_option linter.unusedSimpArgs false
namespace Go.Proofs.YtcbeefbefapicaaGreatDoor
open Go.ChangeShapes Go.WideShapes Go.ChangeAt Go.RowKit Go.Deep Go.Joins
set_option maxRecDepth 100000

theorem deedMeans_lifted (os : Os) (started : os.Started) (H : Type) (enc : TypeId × Value → H) :
  ReturnsInHanded {} Tryz.checked os 4 .any (fun w args => (Rows.deedMeansSpec.pre enc Tryz.prog Tryz.f4 Rows.deedMeansRow.domain false w args ∧ laidMetH Tryz.prog laidL w) ∧ sizedMet enc Tryz.prog Tryz.f4 (OpenSpec.ofChange Rows.deedMeansSpec) false w args)
   (Rows.deedMeansSpec.post enc Tryz.prog Tryz.f4 false true false false) := by
 refine wrap_both (C := Tryz.checked) (X := fun w _ => laidMetH Tryz.prog laidL w) (fun _ _ _ hh h => h.of_heap hh) Tryz.ownL started (by kernel_rfl) Tryz.func4
  (ChangeSpec.witness_shaped (enc := enc) (C := Tryz.checked) (os := os) (X := fun w _ => laidMetH Tryz.prog laidL w) false (World.laidAll Tryz.prog os laidL) #[.agg #[.slice none 0 0, .slice none 0 0, .slice none 0 0, .slice none 0 0], .agg #[.int .u8 0, .int .i64 0, .int .i64 0, .int .i64 0, .int .i64 0, .int .i64 0, .int .i64 0, .int .i64 0, .int .i64 0, .int .i64 0, .int .i64 0, .int .i64 0, .int .i64 0], .slice none 0 0] 8 (World.laidAll_os _ _ _)
   (shaped_door os _) (by kernel_rfl) (by kernel_rfl) (by kernel_rfl) (laid_door os _)) ?_
 intro W base args ds gs before hval0 hW hL hsh
 have hval : ∀ (j : Nat) t v, Tryz.f4.params[j]? = some t → args[j]? = some v → Value.okWide Tryz.prog W .any base t v := hval0
 have hW' := hW
 obtain ⟨p, q, hA0, hV, rfl, hfz, hnd⟩ := hW
 have hA : DataW.TrodAll enc Tryz.prog W 0 (fun _ => true) true Tryz.f4.params.toList args.toList ds p := hA0
 rw [Tryz.params4] at hA hval
 obtain ⟨v0, v1, v2, d0, d1, d2, p0, p1, p2, rfl, rfl, rfl, h0, h1, h2⟩ := trodAll_three hA
 obtain ⟨u0, fd0, rfl, hF0⟩ := open_field (hval 0 27 v0 rfl rfl) h0
 obtain ⟨ca1, rfl, hw1⟩ := open_call (hval 1 42 v1 rfl rfl) h1
 obtain ⟨A2, c2, y2, rfl, hR2, hn2⟩ := open_nums (hval 2 43 v2 rfl rfl) h2
 have hE := env_of hsh hL
 have hV2 := hV
 obtain ⟨rfl, rfl⟩ := trodVars_none hV
 have hlt : ∀ x ∈ p0 ++ (p1 ++ p2) ++ [], x.block < W.heap.size := fun x hx => by simpa using hW'.lt x (by simpa using hx)
 refine (deedMeans_any u0 fd0 ca1 A2 c2 y2 hn2 W hE hF0 hR2).mono fun e W' ⟨he, hb⟩ => ?_
 subst he
 exact ⟨_, rfl, _, _, _, [], _, [], hW', trodAll_mk1 (shut_bool Tryz.underlying4 _),
  trodAll_mk3 (Below.trod Tryz.laidOutL (by kernel_rfl) (of_decide_eq_true (by kernel_rfl)) h0 hb (fun x hx => hlt x (by simp [hx])))
   (Below.trod Tryz.laidOutL (by kernel_rfl) (of_decide_eq_true (by kernel_rfl)) h1 hb (fun x hx => hlt x (by simp [hx])))
   (Below.trod Tryz.laidOutL (by kernel_rfl) (of_decide_eq_true (by kernel_rfl)) h2 hb (fun x hx => hlt x (by simp [hx]))),
  hb.trodVars Tryz.laidOutL (by kernel_rfl) hV2, hb.frame _, fun h => by cases h⟩

theorem deedMeans_k1 : (Rows.deedMeansRow.wf (OpenSpec.ofChange Rows.deedMeansSpec)) = true := by kernel_rfl
theorem deedMeans_k4 : (Tryz.f4.params.all (Tryz.prog.readableRec ·)) = true := by kernel_rfl
theorem deedMeans_k5 : (namedTie Tryz.prog Rows.deedMeansRow.named Rows.deedMeansSpec.vars) = true := by kernel_rfl
theorem deedMeans_k6 : ((Rows.deedMeansRow.stops == [])) = true := by kernel_rfl
theorem deedMeans_k8 : ((Rows.deedMeansRow.knobs == [])) = true := by kernel_rfl
theorem deedMeans_k10 : ((Rows.deedMeansRow.inPlace == Tryz.prog.inPlace 4)) = true := by kernel_rfl
theorem deedMeans_k11 : ((Rows.deedMeansRow.unfollowed == Tryz.prog.unfollowed 4)) = true := by kernel_rfl
theorem deedMeans_k12 : ((Rows.deedMeansRow.recurses == Tryz.prog.recurses 4)) = true := by kernel_rfl
theorem deedMeans_k13 : ((Rows.deedMeansRow.named == Tryz.prog.varsNamed 4)) = true := by kernel_rfl
theorem deedMeans_k14 : ((Rows.deedMeansRow.maps == (Tryz.f4.params.toList ++ Rows.deedMeansSpec.plain.varTypes Tryz.prog).any (Tryz.prog.mapsRec ·))) = true := by kernel_rfl
theorem deedMeans_k15 : ((Rows.deedMeansRow.ifaces == (Tryz.f4.params.toList ++ Rows.deedMeansSpec.plain.varTypes Tryz.prog).any (Tryz.prog.ifacesRec ·))) = true := by kernel_rfl
theorem deedMeans_k16 : ((Rows.deedMeansRow.mapsOut == Tryz.prog.mapsAmong Tryz.f4.resultTypes.toList)) = true := by kernel_rfl
theorem deedMeans_k17 : ((Rows.deedMeansRow.loops == (Tryz.f4.params.toList ++ Rows.deedMeansSpec.plain.varTypes Tryz.prog).any (Tryz.prog.loopsFrom ·))) = true := by kernel_rfl
theorem deedMeans_k17b : ((Rows.deedMeansRow.wideKeys == (Tryz.f4.params.toList ++ Rows.deedMeansSpec.plain.varTypes Tryz.prog ++ Tryz.f4.resultTypes.toList).any (Tryz.prog.wideKeysFrom ·))) = true := by kernel_rfl
theorem deedMeans_k18 : (Rows.deedMeansSpec.vars.all (Tryz.prog.varReadable ·)) = true := by kernel_rfl
theorem deedMeans_k19 : (Tryz.f4.resultTypes.all (fun t => Tryz.prog.readableRec t && decide (t < Tryz.prog.types.size))) = true := by kernel_rfl
theorem deedMeans_k20 : ((Rows.deedMeansRow.ifacesOut == Tryz.f4.resultTypes.toList.any (Tryz.prog.ifacesRec ·))) = true := by kernel_rfl
theorem deedMeans_k21 : ((Rows.deedMeansRow.loopsOut == Tryz.f4.resultTypes.toList.any (Tryz.prog.loopsFrom ·))) = true := by kernel_rfl
theorem deedMeans_k22 : ((Rows.deedMeansRow.plainKeys == Tryz.prog.plainKeys)) = true := by kernel_rfl
theorem deedMeans_k23 : (Rows.deedMeansRow.shortTexts.isNone) = true := by kernel_rfl
theorem deedMeans_k24b : ((Rows.deedMeansRow.lifted == Tryz.prog.liftsFinal)) = true := by kernel_rfl
theorem deedMeans_k24c : ((Tryz.prog.make == some Rows.deedMeansRow.make)) = true := by kernel_rfl
theorem deedMeans_k25 : ((Rows.deedMeansRow.kinds == (if Rows.deedMeansRow.domain.isEmpty then [] else Tryz.f4.params.toList.map fun t => match Tryz.prog.underlying t with | some (.int k) => some k | _ => none))) = true := by kernel_rfl
theorem deedMeans_k26 : ((Rows.deedMeansRow.pinned == Rows.deedMeansRow.pinnedBy)) = true := by kernel_rfl
theorem deedMeans_k27 : ((Rows.deedMeansRow.veiled == (Tryz.f4.params.toList ++ Rows.deedMeansSpec.plain.varTypes Tryz.prog ++ Tryz.f4.resultTypes.toList).any (Tryz.prog.veiledRec ·))) = true := by kernel_rfl
theorem deedMeans_k28 : (Rows.deedMeansRow.veiledFits Tryz.prog Tryz.f4.params.toList (Tryz.f4.params.toList ++ Rows.deedMeansSpec.plain.varTypes Tryz.prog ++ Tryz.f4.resultTypes.toList)) = true := by kernel_rfl
theorem deedMeans_closed : joinedFacts Tryz.prog 4 Tryz.f4 Rows.deedMeansSpec Rows.deedMeansRow = true := joinedFacts_of deedMeans_k1 joined_k2 joined_k3 deedMeans_k4 deedMeans_k5 deedMeans_k6 joined_k7 deedMeans_k8 joined_k9 deedMeans_k10 deedMeans_k11 deedMeans_k12 deedMeans_k13 deedMeans_k14 deedMeans_k15 deedMeans_k16 deedMeans_k17 deedMeans_k17b deedMeans_k18 deedMeans_k19 deedMeans_k20 deedMeans_k21 deedMeans_k22 deedMeans_k23 joined_k23b joined_k24 deedMeans_k24b deedMeans_k24c deedMeans_k25 deedMeans_k26 deedMeans_k27 deedMeans_k28
theorem deedMeans_inst : Tryz.f4.isInstance Tryz.prog Rows.deedMeansRow.origin Rows.deedMeansRow.targs := of_decide_eq_true (by kernel_rfl)
theorem deedMeans_wrap : Tryz.f4.isWrapper Tryz.prog Rows.deedMeansRow.wrapper Rows.deedMeansRow.mainSum := by unfold Func.isWrapper; rw [if_neg (by decide +kernel)]; exact ⟨rfl, rfl⟩

theorem deedMeans_named : Tryz.prog.funcNamed "merestone/merestonelaw03.DeedMeans" = some 4 := by kernel_rfl
theorem deedMeans_byText : Rows.deedMeansRow.wfByText (OpenSpec.ofChange Rows.deedMeansSpec) = true := by kernel_rfl
theorem deedMeans_main : Tryz.prog.mainIs = some (true, "e7f8b3b9ef7baaf8ab40aedb79785526cfcab93c4854eb52c507d01a6f3baea2".toList) := by kernel_rfl
theorem deedMeans_standIns : ([27, 42, 43].all fun u => !Tryz.prog.wantsStandIn u) = true := by kernel_rfl
theorem deedMeans_goes : false = Rows.deedMeansRow.goesBy Tryz.prog := by kernel_rfl

theorem deedMeans_holds : Rows.DeedMeansSaid :=
 OpenClaim.holds_of_wide 4 Tryz.f4 rfl rfl rfl rfl rfl rfl rfl ⟨rfl, rfl, rfl, rfl, rfl⟩ rfl rfl rfl rfl rfl deedMeans_named Tryz.func4 deedMeans_closed
  deedMeans_inst deedMeans_wrap
  (fun os started H enc _ => deedMeans_lifted os started H enc)

theorem deedMeans_card : Rows.DeedMeansCardSaid :=
 Claim7.holds_tied_plain_at .later [] [.data, .data, .data, .data, .sentinel, .sentinel, .data, .pinned] true (true, "e7f8b3b9ef7baaf8ab40aedb79785526cfcab93c4854eb52c507d01a6f3baea2") true
  deedMeans_holds (fun _ h => by cases h) deedMeans_byText (fun _ h => by cases h) deedMeans_row_tie rfl ⟨rfl, rfl⟩ deedMeans_main rfl
  (fun f fn hf hfn => by
   obtain rfl : f = 4 := (Option.some.inj (deedMeans_named.symm.trans hf)).symm
   obtain rfl : fn = Tryz.f4 := (Option.some.inj (Tryz.func4.symm.trans hfn)).symm
   exact ⟨joined_looks, fun j t ht => by
    rw [Tryz.params4] at ht
    have hm : t ∈ [27, 42, 43] := by simpa using Array.mem_of_getElem? ht
    exact (show Tryz.prog.wantsStandIn t = false by simpa using List.all_eq_true.1 deedMeans_standIns t hm)⟩)
  deedMeans_goes
#print axioms deedMeans_card

end Go.Proofs.YtcbeefbefapicaaGreatDoor
