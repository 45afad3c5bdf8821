/-
  Proved: DeedNarrows returns true for every input, and its arguments read behind the call as before: the row, and the card that ties the listed variables to the program's text.
  Conditions: no bound on any input; the variables that the row lists hold what the program's text lays into them.
-/
import Derived.Test.YtcbeefbefapicaaGreatDoorCDLNarrows
import Derived.Test.YtcbeefbefapicaaGreatDoorBn17
import Derived.Test.YtcbeefbefapicaaGreatDoorBn01
import Derived.Test.YtcbeefbefapicaaGreatDoorCards
import Derived.Test.YtcbeefbefapicaaGreatDoorBn14
set_option linter.unusedVariables false
set_option linter.unusedSimpArgs false
namespace Go.Proofs.YtcbeefbefapicaaGreatDoor
open Go.ChangeShapes Go.WideShapes Go.ChangeAt Go.RowKit Go.Deep Go.Joins
set_option maxRecDepth 100000

theorem deedNarrows_lifted (os : Os) (started : os.Started) (H : Type) (enc : TypeId × Value → H) :
  ReturnsInHanded {} Tryz.checked os 5 .any (fun w args => (Rows.deedNarrowsSpec.pre enc Tryz.prog Tryz.f5 Rows.deedNarrowsRow.domain false w args ∧ laidMetH Tryz.prog laidL w) ∧ sizedMet enc Tryz.prog Tryz.f5 (OpenSpec.ofChange Rows.deedNarrowsSpec) false w args)
   (Rows.deedNarrowsSpec.post enc Tryz.prog Tryz.f5 false true false false) := by
 refine wrap_both (C := Tryz.checked) (X := fun w _ => laidMetH Tryz.prog laidL w) (fun _ _ _ hh h => h.of_heap hh) Tryz.ownL started (by kernel_rfl) Tryz.func5
  (ChangeSpec.witness_shaped (enc := enc) (C := Tryz.checked) (os := os) (X := fun w _ => laidMetH Tryz.prog laidL w) false (World.laidAll Tryz.prog os laidL) #[.agg #[.slice none 0 0, .slice none 0 0, .slice none 0 0, .slice none 0 0], .agg #[.int .u8 0, .int .i64 0, .int .i64 0, .int .i64 0, .int .i64 0, .int .i64 0, .int .i64 0, .int .i64 0, .int .i64 0, .int .i64 0, .int .i64 0, .int .i64 0, .int .i64 0], .int .i64 0, .int .i64 0, .int .i64 0, .slice none 0 0] 8 (World.laidAll_os _ _ _)
   (shaped_door os _) (by kernel_rfl) (by kernel_rfl) (by kernel_rfl) (laid_door os _)) ?_
 intro W base args ds gs before hval0 hW hL hsh
 have hval : ∀ (j : Nat) t v, Tryz.f5.params[j]? = some t → args[j]? = some v → Value.okWide Tryz.prog W .any base t v := hval0
 have hW' := hW
 obtain ⟨p, q, hA0, hV, rfl, hfz, hnd⟩ := hW
 have hA : DataW.TrodAll enc Tryz.prog W 0 (fun _ => true) true Tryz.f5.params.toList args.toList ds p := hA0
 rw [Tryz.params5] at hA hval
 obtain ⟨v0, v1, v2, v3, v4, v5, d0, d1, d2, d3, d4, d5, p0, p1, p2, p3, p4, p5, rfl, rfl, rfl, h0, h1, h2, h3, h4, h5⟩ := trodAll_six hA
 obtain ⟨u0, fd0, rfl, hF0⟩ := open_field (hval 0 27 v0 rfl rfl) h0
 obtain ⟨ca1, rfl, hw1⟩ := open_call (hval 1 42 v1 rfl rfl) h1
 obtain ⟨a2, rfl, _, _, hw2⟩ := open_int Tryz.underlying3 (hval 2 3 v2 rfl rfl) h2
 have hw2 := wfI.le hw2
 obtain ⟨a3, rfl, _, _, hw3⟩ := open_int Tryz.underlying3 (hval 3 3 v3 rfl rfl) h3
 have hw3 := wfI.le hw3
 obtain ⟨a4, rfl, _, _, hw4⟩ := open_int Tryz.underlying3 (hval 4 3 v4 rfl rfl) h4
 have hw4 := wfI.le hw4
 obtain ⟨A5, c5, y5, rfl, hR5, hn5⟩ := open_nums (hval 5 43 v5 rfl rfl) h5
 have hE := env_of hsh hL
 have hV2 := hV
 obtain ⟨rfl, rfl⟩ := trodVars_none hV
 have hlt : ∀ x ∈ p0 ++ (p1 ++ (p2 ++ (p3 ++ (p4 ++ p5)))) ++ [], x.block < W.heap.size := fun x hx => by simpa using hW'.lt x (by simpa using hx)
 refine (deedNarrows_any u0 fd0 ca1 a2 a3 a4 A5 c5 y5 hn5 W hE hF0 hR5).mono fun e W' ⟨he, hb⟩ => ?_
 subst he
 exact ⟨_, rfl, _, _, _, [], _, [], hW', trodAll_mk1 (shut_bool Tryz.underlying4 _),
  trodAll_mk6 (Below.trod Tryz.laidOutL (by kernel_rfl) (of_decide_eq_true (by kernel_rfl)) h0 hb (fun x hx => hlt x (by simp [hx])))
   (Below.trod Tryz.laidOutL (by kernel_rfl) (of_decide_eq_true (by kernel_rfl)) h1 hb (fun x hx => hlt x (by simp [hx])))
   (Below.trod Tryz.laidOutL (by kernel_rfl) (of_decide_eq_true (by kernel_rfl)) h2 hb (fun x hx => hlt x (by simp [hx])))
   (Below.trod Tryz.laidOutL (by kernel_rfl) (of_decide_eq_true (by kernel_rfl)) h3 hb (fun x hx => hlt x (by simp [hx])))
   (Below.trod Tryz.laidOutL (by kernel_rfl) (of_decide_eq_true (by kernel_rfl)) h4 hb (fun x hx => hlt x (by simp [hx])))
   (Below.trod Tryz.laidOutL (by kernel_rfl) (of_decide_eq_true (by kernel_rfl)) h5 hb (fun x hx => hlt x (by simp [hx]))),
  hb.trodVars Tryz.laidOutL (by kernel_rfl) hV2, hb.frame _, fun h => by cases h⟩

theorem deedNarrows_k1 : (Rows.deedNarrowsRow.wf (OpenSpec.ofChange Rows.deedNarrowsSpec)) = true := by kernel_rfl
theorem deedNarrows_k4 : (Tryz.f5.params.all (Tryz.prog.readableRec ·)) = true := by kernel_rfl
theorem deedNarrows_k5 : (namedTie Tryz.prog Rows.deedNarrowsRow.named Rows.deedNarrowsSpec.vars) = true := by kernel_rfl
theorem deedNarrows_k6 : ((Rows.deedNarrowsRow.stops == [])) = true := by kernel_rfl
theorem deedNarrows_k8 : ((Rows.deedNarrowsRow.knobs == [])) = true := by kernel_rfl
theorem deedNarrows_k10 : ((Rows.deedNarrowsRow.inPlace == Tryz.prog.inPlace 5)) = true := by kernel_rfl
theorem deedNarrows_k11 : ((Rows.deedNarrowsRow.unfollowed == Tryz.prog.unfollowed 5)) = true := by kernel_rfl
theorem deedNarrows_k12 : ((Rows.deedNarrowsRow.recurses == Tryz.prog.recurses 5)) = true := by kernel_rfl
theorem deedNarrows_k13 : ((Rows.deedNarrowsRow.named == Tryz.prog.varsNamed 5)) = true := by kernel_rfl
theorem deedNarrows_k14 : ((Rows.deedNarrowsRow.maps == (Tryz.f5.params.toList ++ Rows.deedNarrowsSpec.plain.varTypes Tryz.prog).any (Tryz.prog.mapsRec ·))) = true := by kernel_rfl
theorem deedNarrows_k15 : ((Rows.deedNarrowsRow.ifaces == (Tryz.f5.params.toList ++ Rows.deedNarrowsSpec.plain.varTypes Tryz.prog).any (Tryz.prog.ifacesRec ·))) = true := by kernel_rfl
theorem deedNarrows_k16 : ((Rows.deedNarrowsRow.mapsOut == Tryz.prog.mapsAmong Tryz.f5.resultTypes.toList)) = true := by kernel_rfl
theorem deedNarrows_k17 : ((Rows.deedNarrowsRow.loops == (Tryz.f5.params.toList ++ Rows.deedNarrowsSpec.plain.varTypes Tryz.prog).any (Tryz.prog.loopsFrom ·))) = true := by kernel_rfl
theorem deedNarrows_k17b : ((Rows.deedNarrowsRow.wideKeys == (Tryz.f5.params.toList ++ Rows.deedNarrowsSpec.plain.varTypes Tryz.prog ++ Tryz.f5.resultTypes.toList).any (Tryz.prog.wideKeysFrom ·))) = true := by kernel_rfl
theorem deedNarrows_k18 : (Rows.deedNarrowsSpec.vars.all (Tryz.prog.varReadable ·)) = true := by kernel_rfl
theorem deedNarrows_k19 : (Tryz.f5.resultTypes.all (fun t => Tryz.prog.readableRec t && decide (t < Tryz.prog.types.size))) = true := by kernel_rfl
theorem deedNarrows_k20 : ((Rows.deedNarrowsRow.ifacesOut == Tryz.f5.resultTypes.toList.any (Tryz.prog.ifacesRec ·))) = true := by kernel_rfl
theorem deedNarrows_k21 : ((Rows.deedNarrowsRow.loopsOut == Tryz.f5.resultTypes.toList.any (Tryz.prog.loopsFrom ·))) = true := by kernel_rfl
theorem deedNarrows_k22 : ((Rows.deedNarrowsRow.plainKeys == Tryz.prog.plainKeys)) = true := by kernel_rfl
theorem deedNarrows_k23 : (Rows.deedNarrowsRow.shortTexts.isNone) = true := by kernel_rfl
theorem deedNarrows_k24b : ((Rows.deedNarrowsRow.lifted == Tryz.prog.liftsFinal)) = true := by kernel_rfl
theorem deedNarrows_k24c : ((Tryz.prog.make == some Rows.deedNarrowsRow.make)) = true := by kernel_rfl
theorem deedNarrows_k25 : ((Rows.deedNarrowsRow.kinds == (if Rows.deedNarrowsRow.domain.isEmpty then [] else Tryz.f5.params.toList.map fun t => match Tryz.prog.underlying t with | some (.int k) => some k | _ => none))) = true := by kernel_rfl
theorem deedNarrows_k26 : ((Rows.deedNarrowsRow.pinned == Rows.deedNarrowsRow.pinnedBy)) = true := by kernel_rfl
theorem deedNarrows_k27 : ((Rows.deedNarrowsRow.veiled == (Tryz.f5.params.toList ++ Rows.deedNarrowsSpec.plain.varTypes Tryz.prog ++ Tryz.f5.resultTypes.toList).any (Tryz.prog.veiledRec ·))) = true := by kernel_rfl
theorem deedNarrows_k28 : (Rows.deedNarrowsRow.veiledFits Tryz.prog Tryz.f5.params.toList (Tryz.f5.params.toList ++ Rows.deedNarrowsSpec.plain.varTypes Tryz.prog ++ Tryz.f5.resultTypes.toList)) = true := by kernel_rfl
theorem deedNarrows_closed : joinedFacts Tryz.prog 5 Tryz.f5 Rows.deedNarrowsSpec Rows.deedNarrowsRow = true := joinedFacts_of deedNarrows_k1 joined_k2 joined_k3 deedNarrows_k4 deedNarrows_k5 deedNarrows_k6 joined_k7 deedNarrows_k8 joined_k9 deedNarrows_k10 deedNarrows_k11 deedNarrows_k12 deedNarrows_k13 deedNarrows_k14 deedNarrows_k15 deedNarrows_k16 deedNarrows_k17 deedNarrows_k17b deedNarrows_k18 deedNarrows_k19 deedNarrows_k20 deedNarrows_k21 deedNarrows_k22 deedNarrows_k23 joined_k23b joined_k24 deedNarrows_k24b deedNarrows_k24c deedNarrows_k25 deedNarrows_k26 deedNarrows_k27 deedNarrows_k28
theorem deedNarrows_inst : Tryz.f5.isInstance Tryz.prog Rows.deedNarrowsRow.origin Rows.deedNarrowsRow.targs := of_decide_eq_true (by kernel_rfl)
theorem deedNarrows_wrap : Tryz.f5.isWrapper Tryz.prog Rows.deedNarrowsRow.wrapper Rows.deedNarrowsRow.mainSum := by unfold Func.isWrapper; rw [if_neg (by decide +kernel)]; exact ⟨rfl, rfl⟩

theorem deedNarrows_named : Tryz.prog.funcNamed "merestone/merestonelaw03.DeedNarrows" = some 5 := by kernel_rfl
theorem deedNarrows_byText : Rows.deedNarrowsRow.wfByText (OpenSpec.ofChange Rows.deedNarrowsSpec) = true := by kernel_rfl
theorem deedNarrows_main : Tryz.prog.mainIs = some (true, "e7f8b3b9ef7baaf8ab40aedb79785526cfcab93c4854eb52c507d01a6f3baea2".toList) := by kernel_rfl
theorem deedNarrows_standIns : ([27, 42, 3, 3, 3, 43].all fun u => !Tryz.prog.wantsStandIn u) = true := by kernel_rfl
theorem deedNarrows_goes : false = Rows.deedNarrowsRow.goesBy Tryz.prog := by kernel_rfl

theorem deedNarrows_holds : Rows.DeedNarrowsSaid :=
 OpenClaim.holds_of_wide 5 Tryz.f5 rfl rfl rfl rfl rfl rfl rfl ⟨rfl, rfl, rfl, rfl, rfl⟩ rfl rfl rfl rfl rfl deedNarrows_named Tryz.func5 deedNarrows_closed
  deedNarrows_inst deedNarrows_wrap
  (fun os started H enc _ => deedNarrows_lifted os started H enc)

theorem deedNarrows_card : Rows.DeedNarrowsCardSaid :=
 Claim7.holds_tied_plain_at .later [] [.data, .data, .data, .data, .sentinel, .sentinel, .data, .pinned] true (true, "e7f8b3b9ef7baaf8ab40aedb79785526cfcab93c4854eb52c507d01a6f3baea2") true
  deedNarrows_holds (fun _ h => by cases h) deedNarrows_byText (fun _ h => by cases h) deedNarrows_row_tie rfl ⟨rfl, rfl⟩ deedNarrows_main rfl
  (fun f fn hf hfn => by
   obtain rfl : f = 5 := (Option.some.inj (deedNarrows_named.symm.trans hf)).symm
   obtain rfl : fn = Tryz.f5 := (Option.some.inj (Tryz.func5.symm.trans hfn)).symm
   exact ⟨joined_looks, fun j t ht => by
    rw [Tryz.params5] at ht
    have hm : t ∈ [27, 42, 3, 3, 3, 43] := by simpa using Array.mem_of_getElem? ht
    exact (show Tryz.prog.wantsStandIn t = false by simpa using List.all_eq_true.1 deedNarrows_standIns t hm)⟩)
  deedNarrows_goes
#print axioms deedNarrows_card

end Go.Proofs.YtcbeefbefapicaaGreatDoor
