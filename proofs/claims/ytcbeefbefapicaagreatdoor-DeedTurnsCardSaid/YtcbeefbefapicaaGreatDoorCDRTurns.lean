/-
  Proved: DeedTurns returns true for every input, and its arguments read behind the call as before: the row, and the card that ties the listed variables to the program's text.
  Conditions: no bound on any input; the variables that the row lists hold what the program's text lays into them.
-/
import Derived.Test.YtcbeefbefapicaaGreatDoorCDLTurns
import Derived.Test.YtcbeefbefapicaaGreatDoorBn17
import Derived.Test.YtcbeefbefapicaaGreatDoorBn01
import Derived.Test.YtcbeefbefapicaaGreatDoorCards
set_option linter.unusedVariables false
set_option linter.unusedSimpArgs false
namespace Go.Proofs.YtcbeefbefapicaaGreatDoor
open Go.ChangeShapes Go.WideShapes Go.ChangeAt Go.RowKit Go.Deep Go.Joins
set_option maxRecDepth 100000

theorem deedTurns_lifted (os : Os) (started : os.Started) (H : Type) (enc : TypeId × Value → H) :
  ReturnsInHanded {} Tryz.checked os 6 .any (fun w args => (Rows.deedTurnsSpec.pre enc Tryz.prog Tryz.f6 Rows.deedTurnsRow.domain false w args ∧ laidMetH Tryz.prog laidL w) ∧ sizedMet enc Tryz.prog Tryz.f6 (OpenSpec.ofChange Rows.deedTurnsSpec) false w args)
   (Rows.deedTurnsSpec.post enc Tryz.prog Tryz.f6 false true false false) := by
 refine wrap_both (C := Tryz.checked) (X := fun w _ => laidMetH Tryz.prog laidL w) (fun _ _ _ hh h => h.of_heap hh) Tryz.ownL started (by kernel_rfl) Tryz.func6
  (ChangeSpec.witness_shaped (enc := enc) (C := Tryz.checked) (os := os) (X := fun w _ => laidMetH Tryz.prog laidL w) false (World.laidAll Tryz.prog os laidL) #[.agg #[.slice none 0 0, .slice none 0 0, .slice none 0 0, .slice none 0 0], .agg #[.int .u8 0, .int .i64 0, .int .i64 0, .int .i64 0, .int .i64 0, .int .i64 0, .int .i64 0, .int .i64 0, .int .i64 0, .int .i64 0, .int .i64 0, .int .i64 0, .int .i64 0], .slice none 0 0] 8 (World.laidAll_os _ _ _)
   (shaped_door os _) (by kernel_rfl) (by kernel_rfl) (by kernel_rfl) (laid_door os _)) ?_
 intro W base args ds gs before hval0 hW hL hsh
 have hval : ∀ (j : Nat) t v, Tryz.f6.params[j]? = some t → args[j]? = some v → Value.okWide Tryz.prog W .any base t v := hval0
 have hW' := hW
 obtain ⟨p, q, hA0, hV, rfl, hfz, hnd⟩ := hW
 have hA : DataW.TrodAll enc Tryz.prog W 0 (fun _ => true) true Tryz.f6.params.toList args.toList ds p := hA0
 rw [Tryz.params6] at hA hval
 obtain ⟨v0, v1, v2, d0, d1, d2, p0, p1, p2, rfl, rfl, rfl, h0, h1, h2⟩ := trodAll_three hA
 obtain ⟨u0, fd0, rfl, hF0⟩ := open_field (hval 0 27 v0 rfl rfl) h0
 obtain ⟨ca1, rfl, hw1⟩ := open_call (hval 1 42 v1 rfl rfl) h1
 obtain ⟨A2, c2, y2, rfl, hR2, hn2⟩ := open_nums (hval 2 43 v2 rfl rfl) h2
 have hE := env_of hsh hL
 have hV2 := hV
 obtain ⟨rfl, rfl⟩ := trodVars_none hV
 have hlt : ∀ x ∈ p0 ++ (p1 ++ p2) ++ [], x.block < W.heap.size := fun x hx => by simpa using hW'.lt x (by simpa using hx)
 refine (deedTurns_any u0 fd0 ca1 A2 c2 y2 hn2 W hE hF0 hR2).mono fun e W' ⟨he, hb⟩ => ?_
 subst he
 exact ⟨_, rfl, _, _, _, [], _, [], hW', trodAll_mk1 (shut_bool Tryz.underlying4 _),
  trodAll_mk3 (Below.trod Tryz.laidOutL (by kernel_rfl) (of_decide_eq_true (by kernel_rfl)) h0 hb (fun x hx => hlt x (by simp [hx])))
   (Below.trod Tryz.laidOutL (by kernel_rfl) (of_decide_eq_true (by kernel_rfl)) h1 hb (fun x hx => hlt x (by simp [hx])))
   (Below.trod Tryz.laidOutL (by kernel_rfl) (of_decide_eq_true (by kernel_rfl)) h2 hb (fun x hx => hlt x (by simp [hx]))),
  hb.trodVars Tryz.laidOutL (by kernel_rfl) hV2, hb.frame _, fun h => by cases h⟩

theorem deedTurns_k1 : (Rows.deedTurnsRow.wf (OpenSpec.ofChange Rows.deedTurnsSpec)) = true := by kernel_rfl
theorem deedTurns_k4 : (Tryz.f6.params.all (Tryz.prog.readableRec ·)) = true := by kernel_rfl
theorem deedTurns_k5 : (namedTie Tryz.prog Rows.deedTurnsRow.named Rows.deedTurnsSpec.vars) = true := by kernel_rfl
theorem deedTurns_k6 : ((Rows.deedTurnsRow.stops == [])) = true := by kernel_rfl
theorem deedTurns_k8 : ((Rows.deedTurnsRow.knobs == [])) = true := by kernel_rfl
theorem deedTurns_k10 : ((Rows.deedTurnsRow.inPlace == Tryz.prog.inPlace 6)) = true := by kernel_rfl
theorem deedTurns_k11 : ((Rows.deedTurnsRow.unfollowed == Tryz.prog.unfollowed 6)) = true := by kernel_rfl
theorem deedTurns_k12 : ((Rows.deedTurnsRow.recurses == Tryz.prog.recurses 6)) = true := by kernel_rfl
theorem deedTurns_k13 : ((Rows.deedTurnsRow.named == Tryz.prog.varsNamed 6)) = true := by kernel_rfl
theorem deedTurns_k14 : ((Rows.deedTurnsRow.maps == (Tryz.f6.params.toList ++ Rows.deedTurnsSpec.plain.varTypes Tryz.prog).any (Tryz.prog.mapsRec ·))) = true := by kernel_rfl
theorem deedTurns_k15 : ((Rows.deedTurnsRow.ifaces == (Tryz.f6.params.toList ++ Rows.deedTurnsSpec.plain.varTypes Tryz.prog).any (Tryz.prog.ifacesRec ·))) = true := by kernel_rfl
theorem deedTurns_k16 : ((Rows.deedTurnsRow.mapsOut == Tryz.prog.mapsAmong Tryz.f6.resultTypes.toList)) = true := by kernel_rfl
theorem deedTurns_k17 : ((Rows.deedTurnsRow.loops == (Tryz.f6.params.toList ++ Rows.deedTurnsSpec.plain.varTypes Tryz.prog).any (Tryz.prog.loopsFrom ·))) = true := by kernel_rfl
theorem deedTurns_k17b : ((Rows.deedTurnsRow.wideKeys == (Tryz.f6.params.toList ++ Rows.deedTurnsSpec.plain.varTypes Tryz.prog ++ Tryz.f6.resultTypes.toList).any (Tryz.prog.wideKeysFrom ·))) = true := by kernel_rfl
theorem deedTurns_k18 : (Rows.deedTurnsSpec.vars.all (Tryz.prog.varReadable ·)) = true := by kernel_rfl
theorem deedTurns_k19 : (Tryz.f6.resultTypes.all (fun t => Tryz.prog.readableRec t && decide (t < Tryz.prog.types.size))) = true := by kernel_rfl
theorem deedTurns_k20 : ((Rows.deedTurnsRow.ifacesOut == Tryz.f6.resultTypes.toList.any (Tryz.prog.ifacesRec ·))) = true := by kernel_rfl
theorem deedTurns_k21 : ((Rows.deedTurnsRow.loopsOut == Tryz.f6.resultTypes.toList.any (Tryz.prog.loopsFrom ·))) = true := by kernel_rfl
theorem deedTurns_k22 : ((Rows.deedTurnsRow.plainKeys == Tryz.prog.plainKeys)) = true := by kernel_rfl
theorem deedTurns_k23 : (Rows.deedTurnsRow.shortTexts.isNone) = true := by kernel_rfl
theorem deedTurns_k24b : ((Rows.deedTurnsRow.lifted == Tryz.prog.liftsFinal)) = true := by kernel_rfl
theorem deedTurns_k24c : ((Tryz.prog.make == some Rows.deedTurnsRow.make)) = true := by kernel_rfl
theorem deedTurns_k25 : ((Rows.deedTurnsRow.kinds == (if Rows.deedTurnsRow.domain.isEmpty then [] else Tryz.f6.params.toList.map fun t => match Tryz.prog.underlying t with | some (.int k) => some k | _ => none))) = true := by kernel_rfl
theorem deedTurns_k26 : ((Rows.deedTurnsRow.pinned == Rows.deedTurnsRow.pinnedBy)) = true := by kernel_rfl
theorem deedTurns_k27 : ((Rows.deedTurnsRow.veiled == (Tryz.f6.params.toList ++ Rows.deedTurnsSpec.plain.varTypes Tryz.prog ++ Tryz.f6.resultTypes.toList).any (Tryz.prog.veiledRec ·))) = true := by kernel_rfl
theorem deedTurns_k28 : (Rows.deedTurnsRow.veiledFits Tryz.prog Tryz.f6.params.toList (Tryz.f6.params.toList ++ Rows.deedTurnsSpec.plain.varTypes Tryz.prog ++ Tryz.f6.resultTypes.toList)) = true := by kernel_rfl
theorem deedTurns_closed : joinedFacts Tryz.prog 6 Tryz.f6 Rows.deedTurnsSpec Rows.deedTurnsRow = true := joinedFacts_of deedTurns_k1 joined_k2 joined_k3 deedTurns_k4 deedTurns_k5 deedTurns_k6 joined_k7 deedTurns_k8 joined_k9 deedTurns_k10 deedTurns_k11 deedTurns_k12 deedTurns_k13 deedTurns_k14 deedTurns_k15 deedTurns_k16 deedTurns_k17 deedTurns_k17b deedTurns_k18 deedTurns_k19 deedTurns_k20 deedTurns_k21 deedTurns_k22 deedTurns_k23 joined_k23b joined_k24 deedTurns_k24b deedTurns_k24c deedTurns_k25 deedTurns_k26 deedTurns_k27 deedTurns_k28
theorem deedTurns_inst : Tryz.f6.isInstance Tryz.prog Rows.deedTurnsRow.origin Rows.deedTurnsRow.targs := of_decide_eq_true (by kernel_rfl)
theorem deedTurns_wrap : Tryz.f6.isWrapper Tryz.prog Rows.deedTurnsRow.wrapper Rows.deedTurnsRow.mainSum := by unfold Func.isWrapper; rw [if_neg (by decide +kernel)]; exact ⟨rfl, rfl⟩

theorem deedTurns_named : Tryz.prog.funcNamed "merestone/merestonelaw03.DeedTurns" = some 6 := by kernel_rfl
theorem deedTurns_byText : Rows.deedTurnsRow.wfByText (OpenSpec.ofChange Rows.deedTurnsSpec) = true := by kernel_rfl
theorem deedTurns_main : Tryz.prog.mainIs = some (true, "e7f8b3b9ef7baaf8ab40aedb79785526cfcab93c4854eb52c507d01a6f3baea2".toList) := by kernel_rfl
theorem deedTurns_standIns : ([27, 42, 43].all fun u => !Tryz.prog.wantsStandIn u) = true := by kernel_rfl
theorem deedTurns_goes : false = Rows.deedTurnsRow.goesBy Tryz.prog := by kernel_rfl

theorem deedTurns_holds : Rows.DeedTurnsSaid :=
 OpenClaim.holds_of_wide 6 Tryz.f6 rfl rfl rfl rfl rfl rfl rfl ⟨rfl, rfl, rfl, rfl, rfl⟩ rfl rfl rfl rfl rfl deedTurns_named Tryz.func6 deedTurns_closed
  deedTurns_inst deedTurns_wrap
  (fun os started H enc _ => deedTurns_lifted os started H enc)

theorem deedTurns_card : Rows.DeedTurnsCardSaid :=
 Claim7.holds_tied_plain_at .later [] [.data, .data, .data, .data, .sentinel, .sentinel, .data, .pinned] true (true, "e7f8b3b9ef7baaf8ab40aedb79785526cfcab93c4854eb52c507d01a6f3baea2") true
  deedTurns_holds (fun _ h => by cases h) deedTurns_byText (fun _ h => by cases h) deedTurns_row_tie rfl ⟨rfl, rfl⟩ deedTurns_main rfl
  (fun f fn hf hfn => by
   obtain rfl : f = 6 := (Option.some.inj (deedTurns_named.symm.trans hf)).symm
   obtain rfl : fn = Tryz.f6 := (Option.some.inj (Tryz.func6.symm.trans hfn)).symm
   exact ⟨joined_looks, fun j t ht => by
    rw [Tryz.params6] at ht
    have hm : t ∈ [27, 42, 43] := by simpa using Array.mem_of_getElem? ht
    exact (show Tryz.prog.wantsStandIn t = false by simpa using List.all_eq_true.1 deedTurns_standIns t hm)⟩)
  deedTurns_goes
#print axioms deedTurns_card

end Go.Proofs.YtcbeefbefapicaaGreatDoor
