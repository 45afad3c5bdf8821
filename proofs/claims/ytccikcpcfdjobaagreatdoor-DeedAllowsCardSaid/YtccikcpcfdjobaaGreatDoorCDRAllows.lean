/-
  Proved: DeedAllows returns true for every input, and its arguments read behind the call as before: the row, and the card that ties the listed variables to the program's text.
  Conditions: no bound on any input; the variables that the row lists hold what the program's text lays into them.
-/
import Derived.Test.YtccikcpcfdjobaaGreatDoorCDLAllows
set_option linter.unusedVariables false
set_option linter.unusedSimpArgs false
set_option maxHeartbeats 8000000
set_option maxRecDepth 100000
namespace Go.Proofs.YtccikcpcfdjobaaGreatDoor
section
open Go.ChangeShapes Go.WideShapes Go.ChangeAt Go.RowKit Go.Deep Go.Joins

theorem y2X (os : Os) (started : os.Started) (H : Type) (enc : TypeId × Value -> H) :
  ReturnsInHanded {} Tryz.checked os 4 .any (fun w args => (Rows.deedAllowsSpec.pre enc Tryz.prog Tryz.f4 Rows.deedAllowsRow.domain false w args /\ laidMetH Tryz.prog laidL w) /\ sizedMet enc Tryz.prog Tryz.f4 (OpenSpec.ofChange Rows.deedAllowsSpec) false w args)
   (Rows.deedAllowsSpec.post enc Tryz.prog Tryz.f4 false true false false) := by
 refine yAu (C := Tryz.checked) (X := fun w _ => laidMetH Tryz.prog laidL w) (fun _ _ _ hh h => h.of_heap hh) Tryz.ownL started (by kernel_rfl) Tryz.func4
  (ChangeSpec.witness_shaped (enc := enc) (C := Tryz.checked) (os := os) (X := fun w _ => laidMetH Tryz.prog laidL w) false (World.laidAll Tryz.prog os laidL) #[.agg #[.slice none 0 0, .slice none 0 0, .slice none 0 0, .slice none 0 0], .agg #[.int .u8 0, .int .i64 0, .int .i64 0, .int .i64 0, .int .i64 0, .int .i64 0, .int .i64 0, .int .i64 0, .int .i64 0, .int .i64 0, .int .i64 0, .int .i64 0, .int .i64 0], .agg #[.int .u8 0, .int .i64 0, .int .i64 0, .int .i64 0, .int .i64 0, .int .i64 0, .int .i64 0, .int .i64 0, .int .i64 0, .int .i64 0, .int .i64 0, .int .i64 0, .int .i64 0], .slice none 0 0] 8 (World.laidAll_os _ _ _)
   (y7P os _) (by kernel_rfl) (by kernel_rfl) (by kernel_rfl) (yA7 os _)) ?_
 intro W base args ds gs before hval0 hW hL hsh;have hval : ∀ (j : Nat) t v, Tryz.f4.params[j]? = some t -> args[j]? = some v -> Value.okWide Tryz.prog W .any base t v := hval0;have hW' := hW;obtain ⟨p, q, hA0, hV, rfl, hfz, hnd⟩ := hW;have hA : DataW.TrodAll enc Tryz.prog W 0 (fun _ => true) true Tryz.f4.params.toList args.toList ds p := hA0;rw [Tryz.params4] at hA hval;obtain ⟨v0, v1, v2, v3, d0, d1, d2, d3, p0, p1, p2, p3, rfl, rfl, rfl, h0, h1, h2, h3⟩ := trodAll_four hA;obtain ⟨u0, fd0, rfl, hF0⟩ := y8t (hval 0 27 v0 rfl rfl) h0;obtain ⟨ca1, rfl, hw1⟩ := y63 (hval 1 48 v1 rfl rfl) h1;obtain ⟨ca2, rfl, hw2⟩ := y63 (hval 2 48 v2 rfl rfl) h2;obtain ⟨A3, c3, y3, rfl, hR3, hn3⟩ := yAN (hval 3 28 v3 rfl rfl) h3;have hE := yCf hsh hL;have hV2 := hV;obtain ⟨rfl, rfl⟩ := trodVars_none hV;have hlt : ∀ x ∈ p0 ++ (p1 ++ (p2 ++ p3)) ++ [], x.block < W.heap.size := fun x hx => by simpa using hW'.lt x (by simpa using hx)
 refine (deedAllows_any u0 fd0 ca1 ca2 A3 c3 y3 hn3 W hE hF0 hR3).mono fun e W' ⟨he, hb⟩ => ?_;subst he;exact ⟨_, rfl, _, _, _, [], _, [], hW', trodAll_mk1 (shut_bool Tryz.underlying4 _),
  trodAll_mk4 (Below.trod Tryz.laidOutL (by kernel_rfl) (of_decide_eq_true (by kernel_rfl)) h0 hb (fun x hx => hlt x (by simp [hx])))
   (Below.trod Tryz.laidOutL (by kernel_rfl) (of_decide_eq_true (by kernel_rfl)) h1 hb (fun x hx => hlt x (by simp [hx])))
   (Below.trod Tryz.laidOutL (by kernel_rfl) (of_decide_eq_true (by kernel_rfl)) h2 hb (fun x hx => hlt x (by simp [hx])))
   (Below.trod Tryz.laidOutL (by kernel_rfl) (of_decide_eq_true (by kernel_rfl)) h3 hb (fun x hx => hlt x (by simp [hx]))),
  hb.trodVars Tryz.laidOutL (by kernel_rfl) hV2, hb.frame _, fun h => by cases h⟩

theorem y4o : (Rows.deedAllowsRow.wf (OpenSpec.ofChange Rows.deedAllowsSpec)) = true := by kernel_rfl
theorem y4p : (Tryz.f4.params.all (Tryz.prog.readableRec ·)) = true := by kernel_rfl
theorem y4q : (namedTie Tryz.prog Rows.deedAllowsRow.named Rows.deedAllowsSpec.vars) = true := by kernel_rfl
theorem y4r : ((Rows.deedAllowsRow.stops == [])) = true := by kernel_rfl
theorem y4s : ((Rows.deedAllowsRow.knobs == [])) = true := by kernel_rfl
theorem y3k : ((Rows.deedAllowsRow.inPlace == Tryz.prog.inPlace 4)) = true := by kernel_rfl
theorem y3m : ((Rows.deedAllowsRow.unfollowed == Tryz.prog.unfollowed 4)) = true := by kernel_rfl
theorem y3n : ((Rows.deedAllowsRow.recurses == Tryz.prog.recurses 4)) = true := by kernel_rfl
theorem y3o : ((Rows.deedAllowsRow.named == Tryz.prog.varsNamed 4)) = true := by kernel_rfl
theorem y3p : ((Rows.deedAllowsRow.maps == (Tryz.f4.params.toList ++ Rows.deedAllowsSpec.plain.varTypes Tryz.prog).any (Tryz.prog.mapsRec ·))) = true := by kernel_rfl
theorem y3q : ((Rows.deedAllowsRow.ifaces == (Tryz.f4.params.toList ++ Rows.deedAllowsSpec.plain.varTypes Tryz.prog).any (Tryz.prog.ifacesRec ·))) = true := by kernel_rfl
theorem y3r : ((Rows.deedAllowsRow.mapsOut == Tryz.prog.mapsAmong Tryz.f4.resultTypes.toList)) = true := by kernel_rfl
theorem y3s : ((Rows.deedAllowsRow.loops == (Tryz.f4.params.toList ++ Rows.deedAllowsSpec.plain.varTypes Tryz.prog).any (Tryz.prog.loopsFrom ·))) = true := by kernel_rfl
theorem y39 : ((Rows.deedAllowsRow.wideKeys == (Tryz.f4.params.toList ++ Rows.deedAllowsSpec.plain.varTypes Tryz.prog ++ Tryz.f4.resultTypes.toList).any (Tryz.prog.wideKeysFrom ·))) = true := by kernel_rfl
theorem y3t : (Rows.deedAllowsSpec.vars.all (Tryz.prog.varReadable ·)) = true := by kernel_rfl
theorem y3u : (Tryz.f4.resultTypes.all (fun t => Tryz.prog.readableRec t && decide (t < Tryz.prog.types.size))) = true := by kernel_rfl
theorem y3v : ((Rows.deedAllowsRow.ifacesOut == Tryz.f4.resultTypes.toList.any (Tryz.prog.ifacesRec ·))) = true := by kernel_rfl
theorem y3w : ((Rows.deedAllowsRow.loopsOut == Tryz.f4.resultTypes.toList.any (Tryz.prog.loopsFrom ·))) = true := by kernel_rfl
theorem y3x : ((Rows.deedAllowsRow.plainKeys == Tryz.prog.plainKeys)) = true := by kernel_rfl
theorem y3y : (Rows.deedAllowsRow.shortTexts.isNone) = true := by kernel_rfl
theorem y3A : ((Rows.deedAllowsRow.lifted == Tryz.prog.liftsFinal)) = true := by kernel_rfl
theorem y3B : ((Tryz.prog.make == some Rows.deedAllowsRow.make)) = true := by kernel_rfl
theorem y3z : ((Rows.deedAllowsRow.kinds == (if Rows.deedAllowsRow.domain.isEmpty then [] else Tryz.f4.params.toList.map fun t => match Tryz.prog.underlying t with | some (.int k) => some k | _ => none))) = true := by kernel_rfl
theorem y40 : ((Rows.deedAllowsRow.pinned == Rows.deedAllowsRow.pinnedBy)) = true := by kernel_rfl
theorem y41 : ((Rows.deedAllowsRow.veiled == (Tryz.f4.params.toList ++ Rows.deedAllowsSpec.plain.varTypes Tryz.prog ++ Tryz.f4.resultTypes.toList).any (Tryz.prog.veiledRec ·))) = true := by kernel_rfl
theorem y42 : (Rows.deedAllowsRow.veiledFits Tryz.prog Tryz.f4.params.toList (Tryz.f4.params.toList ++ Rows.deedAllowsSpec.plain.varTypes Tryz.prog ++ Tryz.f4.resultTypes.toList)) = true := by kernel_rfl
theorem y2W : joinedFacts Tryz.prog 4 Tryz.f4 Rows.deedAllowsSpec Rows.deedAllowsRow = true := y45 y4o yA2 yA3 y4p y4q y4r yA4 y4s yA5 y3k y3m y3n y3o y3p y3q y3r y3s y39 y3t y3u y3v y3w y3x y3y y77 y8h y3A y3B y3z y40 y41 y42
theorem y38 : Tryz.f4.isInstance Tryz.prog Rows.deedAllowsRow.origin Rows.deedAllowsRow.targs := of_decide_eq_true (by kernel_rfl)
theorem y3D : Tryz.f4.isWrapper Tryz.prog Rows.deedAllowsRow.wrapper Rows.deedAllowsRow.mainSum := by unfold Func.isWrapper; rw [if_neg (by decide +kernel)]; exact ⟨rfl, rfl⟩

theorem y1X : Tryz.prog.funcNamed "merestone/merestonelaw03.DeedAllows" = some 4 := by kernel_rfl
theorem y2V : Rows.deedAllowsRow.wfByText (OpenSpec.ofChange Rows.deedAllowsSpec) = true := by kernel_rfl
theorem y3C : Tryz.prog.mainIs = some (true, "2c15769d2791a0233c1ca8c5dd0c07a007421476f3c4882c38e68e5d722c47fb".toList) := by kernel_rfl
theorem y24 : ([27, 48, 48, 28].all fun u => !Tryz.prog.wantsStandIn u) = true := by kernel_rfl
theorem y37 : false = Rows.deedAllowsRow.goesBy Tryz.prog := by kernel_rfl

theorem y2o : Rows.DeedAllowsSaid :=
 OpenClaim.holds_of_wide 4 Tryz.f4 rfl rfl rfl rfl rfl rfl rfl ⟨rfl, rfl, rfl, rfl, rfl⟩ rfl rfl rfl rfl rfl y1X Tryz.func4 y2W
  y38 y3D
  (fun os started H enc _ => y2X os started H enc)

theorem deedAllows_card : Rows.DeedAllowsCardSaid :=
 Claim7.holds_tied_plain_at .later [] [.data, .data, .data, .data, .sentinel, .sentinel, .data, .pinned] true (true, "2c15769d2791a0233c1ca8c5dd0c07a007421476f3c4882c38e68e5d722c47fb") true
  y2o (fun _ h => by cases h) y2V (fun _ h => by cases h) deedAllows_row_tie rfl ⟨rfl, rfl⟩ y3C rfl
  (fun f fn hf hfn => by
   obtain rfl : f = 4 := (Option.some.inj (y1X.symm.trans hf)).symm;obtain rfl : fn = Tryz.f4 := (Option.some.inj (Tryz.func4.symm.trans hfn)).symm;exact ⟨y5s, fun j t ht => by
    rw [Tryz.params4] at ht;have hm : t ∈ [27, 48, 48, 28] := by simpa using Array.mem_of_getElem? ht
    exact (show Tryz.prog.wantsStandIn t = false by simpa using List.all_eq_true.1 y24 t hm)⟩)
  y37
#print axioms deedAllows_card

end
end Go.Proofs.YtccikcpcfdjobaaGreatDoor
