/-
  What the claim needs: contracts.
-/
import Derived.Test.YtccikcpcfdjobaaGreatDoorBs29
set_option linter.unusedVariables false
set_option linter.unusedSimpArgs false
set_option maxHeartbeats 8000000
set_option maxRecDepth 100000
namespace Go.Proofs.YtccikcpcfdjobaaGreatDoor
section
open Go.RowKit Go.Shelf
theorem y5Y (x : TypeId) (v : Value) (w : World) : (Instr.typeAssert (.iface 31 v) x 31 false).run Tryz.prog w = .ok v w := by
 have hu := Tryz.underlying31;simp [Instr.typeAssert, run_underlying hu, Result.andThen]
theorem y2p (g : Nat) (x : Value) (n : Int) (w : World) (hc : w.cell? ⟨g, 0, none⟩ = some x) (hf : w.frozen? ⟨g, 0, none⟩ = false) :
  CallsD Tryz.prog 153 #[.pointer (some ⟨g, 0, none⟩)] (.panicking [pan n]) w fun e u' w' =>
   e = .returned (.tuple #[]) /\ u' = .panicking [{ v := .iface 31 (.int .i64 n), recovered := true }] /\ w' = w.setCell ⟨g, 0, none⟩ (.int .i64 n) := by
 refine callsD_of_wpS Tryz.func153 rfl fun c₀ cs hu => ?_;apply wpS_seq;apply wpS_region;simp [wpOpsS, go_sem, recoverD, hu, Tryz.ntmps153, Exit.thenS, pan];apply wpS_seq;apply wpS_region;simp [wpOpsS, go_sem, Exit.thenS, Array.replicate];refine wpS_cond (t := true) (by simp [Act.eval]) ?_;simp only [if_true];apply wpS_region;simp [wpOpsS, go_sem, hc, hf, bodyPostS, results, Tryz.results153, y5Y]
theorem y7U (g : Nat) (w : World) :
  CallsD Tryz.prog 153 #[.pointer (some ⟨g, 0, none⟩)] .returning w fun e u' w' => e = .returned (.tuple #[]) /\ u' = .returning /\ w' = w := by
 refine callsD_of_wpS Tryz.func153 rfl fun c₀ cs hu => ?_;apply wpS_seq;apply wpS_region;simp [wpOpsS, go_sem, recoverD, hu, Tryz.ntmps153, Exit.thenS];apply wpS_seq;apply wpS_region;simp [wpOpsS, go_sem, Exit.thenS, Array.replicate];refine wpS_cond (t := false) (by simp [Act.eval]) ?_;simp only [Bool.false_eq_true, if_false];refine wpS_of_wp (wp_skip ?_);cases c₀
 simp_all [bodyPostS, results, Tryz.results153]
def Lo (ok : World -> Prop) (bad : Int -> World -> Prop) (e : Ending) (w' : World) : Prop := (e = .returned (.tuple #[]) /\ ok w') ∨ ∃ n, e = .panicked [pan n] /\ bad n w'
theorem y2N (kf : Nat) (first capS : Array Value) (ok : World -> Prop) (bad : Int -> World -> Prop) (w : World)
  (hc : ∀ W1, W1 = w.alloc (.cells #[.int .i64 0] 31) -> Calls Tryz.prog kf (first ++ #[] ++ capS) W1 (Lo ok bad))
  (hok : ∀ W, ok W -> Bk W w.heap.size 31 #[.int .i64 0]) (hbad : ∀ n W, bad n W -> Bk W w.heap.size 31 #[.int .i64 0])
  (ef : ∀ args w, (callFunc kf args).run Tryz.prog w = .ok (.enter kf args) w) :
  Calls Tryz.prog 100 #[.func (.func kf) first capS] w fun e w' => ∃ W n, ((n = 0 /\ ok W) ∨ bad n W) /\ e = .returned (.int .i64 n) /\ w' = W.setCell ⟨w.heap.size, 0, none⟩ (.int .i64 n) := by
 have hmf := zM;have HC := jQ (hc _ rfl);have HOK := jQ hok;have HBAD := jQ hbad;clear hc hok hbad
 go_enter_defers Tryz.func100, Tryz.ntmps100
 go_wp2_with fail;refine HC.o.mono ?_;rintro e w2 (⟨rfl, h⟩ | ⟨n, rfl, h⟩)
 ·have hk := HOK.o _ h;have KE := jQ hk;have HH := jQ h;have c0 := (hk.cell 0).trans rfl;have f0 := hk.frozen 0;have l0 := hk.lt;clear h hk;simp only [];go_wp2_with fail;refine leaves_cons (f := 153) (args := #[.pointer (some ⟨w.heap.size, 0, none⟩)]) (by simp) (by simp [go_sem]) ?_;refine (y7U w.heap.size _).mono ?_;rintro e u' w'' ⟨rfl, rfl, rfl⟩;refine ⟨_, y1S rfl _ _ w.heap.size _ rfl (((KE.o.set 0 (.int .i64 0)).cell 0).trans rfl) Tryz.isAgg31, ?_⟩;exact ⟨w2, 0, .inl ⟨rfl, HH.o⟩, rfl, rfl⟩
 have hk := HBAD.o _ _ h;have KE := jQ hk;have HH := jQ h;clear h hk;simp only [];refine leaves_cons (f := 153) (args := #[.pointer (some ⟨w.heap.size, 0, none⟩)]) (by simp) (by simp [go_sem]) ?_;refine (y2p w.heap.size _ n _ ((KE.o.cell 0).trans rfl) (KE.o.frozen 0)).mono ?_;rintro e u' w'' ⟨rfl, rfl, rfl⟩;refine ⟨_, y1S rfl _ _ w.heap.size _ rfl (((KE.o.set 0 (.int .i64 n)).cell 0).trans rfl) Tryz.isAgg31, ?_⟩;exact ⟨w2, n, .inr HH.o, rfl, rfl⟩
end

end Go.Proofs.YtccikcpcfdjobaaGreatDoor
namespace Go.Proofs
open Go.Shelf
def Tryz.lays229_ren : Go.Shelf.Ren := ⟨fun | 229 => 158 | n => n, fun | 9 => 9 | 40 => 190 | 31 => 23 | 152 => 221 | 3 => 3 | 0 => 0 | 4 => 4 | 21 => 21 | 154 => 223 | n => n, fun | n => n⟩
theorem Tryz.lays229 : Go.Proofs.Lays.n229 Tryz.prog Tryz.lays229_ren := {
 mixed := by kernel_rfl
 f229 := Tryz.func158.trans (congrArg some (by kernel_rfl))
 t0 := Tryz.underlying0
 a0 := Tryz.isAgg0
 z0 := Tryz.sizeOf0
 v0 := Tryz.zeroValue0
 t3 := Tryz.underlying3
 a3 := Tryz.isAgg3
 z3 := Tryz.sizeOf3
 v3 := Tryz.zeroValue3
 t4 := Tryz.underlying4
 a4 := Tryz.isAgg4
 z4 := Tryz.sizeOf4
 v4 := Tryz.zeroValue4
 t9 := Tryz.underlying9
 a9 := Tryz.isAgg9
 z9 := Tryz.sizeOf9
 v9 := Tryz.zeroValue9
 t21 := Tryz.underlying21
 a21 := Tryz.isAgg21
 z21 := Tryz.sizeOf21
 v21 := Tryz.zeroValue21
 t31 := Tryz.underlying23
 a31 := Tryz.isAgg23
 z31 := Tryz.sizeOf23
 v31 := Tryz.zeroValue23
 t40 := Tryz.underlying190
 a40 := Tryz.isAgg190
 z40 := Tryz.sizeOf190
 v40 := Tryz.zeroValue190
 t152 := Tryz.underlying221
 a152 := Tryz.isAgg221
 z152 := Tryz.sizeOf221
 v152 := Tryz.zeroValue221
 t154 := Tryz.underlying223
 a154 := Tryz.isAgg223
 z154 := Tryz.sizeOf223
 v154 := Tryz.zeroValue223 }
open Go.RowKit Go.Sort Go.Lib in
theorem Tryz.strings_FieldsFunc_runes (g : Nat) (lb : Array Value) (eg : ∀ args w, (callFunc g args).run Tryz.prog w = .ok (.enter g args) w) (p : Nat -> Bool) (s : ByteArray) (w : World) (hs : s.size <= 4294967296) (hp : PredAtRunes Tryz.prog g lb p w) :
  Calls Tryz.prog 158 #[.string s, .func (.func g) #[] lb] w fun e w' => ∃ A, e = .returned (.slice (some ⟨A, 0, none⟩) (Lib.goFieldsP p s).length (Lib.goFieldsP p s).length) /\ w.heap.size <= A /\
   w'.ownsRow w.heap.size 9 1 (.slice (some ⟨A, 0, none⟩) (Lib.goFieldsP p s).length (Lib.goFieldsP p s).length) (Lib.goFieldsP p s).length ((Lib.goFieldsP p s).map Value.string) /\ Below w.heap.size w w' := Any.strings_FieldsFunc_runes Tryz.lays229 g lb eg p s w hs hp (by kernel_rfl) (by kernel_rfl)
def Tryz.lays145_ren : Go.Shelf.Ren := ⟨fun | 145 => 157 | 220 => 203 | 219 => 197 | 217 => 232 | 225 => 233 | 224 => 234 | 267 => 235 | 266 => 262 | 314 => 263 | n => n, fun | 9 => 9 | 4 => 4 | 59 => 187 | 3 => 3 | 5 => 5 | 46 => 154 | 146 => 269 | 51 => 208 | n => n, fun | 1 => 0 | n => n⟩
theorem Tryz.lays145 : Go.Proofs.Lays.n145 Tryz.prog Tryz.lays145_ren := {
 mixed := by kernel_rfl
 f145 := Tryz.func157.trans (congrArg some (by kernel_rfl))
 f217 := Tryz.func232.trans (congrArg some (by kernel_rfl))
 f219 := Tryz.func197.trans (congrArg some (by kernel_rfl))
 f220 := Tryz.func203.trans (congrArg some (by kernel_rfl))
 f224 := Tryz.func234.trans (congrArg some (by kernel_rfl))
 f225 := Tryz.func233.trans (congrArg some (by kernel_rfl))
 f266 := Tryz.func262.trans (congrArg some (by kernel_rfl))
 f267 := Tryz.func235.trans (congrArg some (by kernel_rfl))
 f314 := Tryz.func263.trans (congrArg some (by kernel_rfl))
 t3 := Tryz.underlying3
 a3 := Tryz.isAgg3
 z3 := Tryz.sizeOf3
 v3 := Tryz.zeroValue3
 t4 := Tryz.underlying4
 a4 := Tryz.isAgg4
 z4 := Tryz.sizeOf4
 v4 := Tryz.zeroValue4
 t5 := Tryz.underlying5
 a5 := Tryz.isAgg5
 z5 := Tryz.sizeOf5
 v5 := Tryz.zeroValue5
 t9 := Tryz.underlying9
 a9 := Tryz.isAgg9
 z9 := Tryz.sizeOf9
 v9 := Tryz.zeroValue9
 t46 := Tryz.underlying154
 a46 := Tryz.isAgg154
 z46 := Tryz.sizeOf154
 v46 := Tryz.zeroValue154
 t51 := Tryz.underlying208
 a51 := Tryz.isAgg208
 z51 := Tryz.sizeOf208
 v51 := Tryz.zeroValue208
 t59 := Tryz.underlying187
 a59 := Tryz.isAgg187
 z59 := Tryz.sizeOf187
 v59 := Tryz.zeroValue187
 t146 := Tryz.underlying269
 a146 := Tryz.isAgg269
 z146 := Tryz.sizeOf269
 v146 := Tryz.zeroValue269
 g1 := by kernel_rfl }
open Go.RowKit Go.Sort Go.Lib in
theorem Tryz.strings_Cut (s sep : ByteArray) (m : Int) (w : World) (hs : s.size < 4294967281) (hm : w.cell? ⟨0, 0, none⟩ = some (.int .i64 m)) :
  Calls Tryz.prog 157 #[.string s, .string sep] w fun e w' => e = .returned (.tuple #[.string ⟨(Lib.cut s.data.toList sep.data.toList).1.toArray⟩, .string ⟨(Lib.cut s.data.toList sep.data.toList).2.1.toArray⟩, .bool (Lib.cut s.data.toList sep.data.toList).2.2]) /\ ∃ n, w' = w.drewN n := Any.strings_Cut Tryz.lays145 s sep m w hs hm
def Tryz.lays144_ren : Go.Shelf.Ren := ⟨fun | 144 => 99 | 143 => 152 | 219 => 197 | 217 => 232 | 225 => 233 | 224 => 234 | 267 => 235 | 266 => 262 | 314 => 263 | n => n, fun | 9 => 9 | 4 => 4 | 3 => 3 | 5 => 5 | 46 => 154 | 146 => 269 | 51 => 208 | n => n, fun | 1 => 0 | n => n⟩
theorem Tryz.lays144 : Go.Proofs.Lays.n144 Tryz.prog Tryz.lays144_ren := {
 mixed := by kernel_rfl
 f143 := Tryz.func152.trans (congrArg some (by kernel_rfl))
 f144 := Tryz.func99.trans (congrArg some (by kernel_rfl))
 f217 := Tryz.func232.trans (congrArg some (by kernel_rfl))
 f219 := Tryz.func197.trans (congrArg some (by kernel_rfl))
 f224 := Tryz.func234.trans (congrArg some (by kernel_rfl))
 f225 := Tryz.func233.trans (congrArg some (by kernel_rfl))
 f266 := Tryz.func262.trans (congrArg some (by kernel_rfl))
 f267 := Tryz.func235.trans (congrArg some (by kernel_rfl))
 f314 := Tryz.func263.trans (congrArg some (by kernel_rfl))
 t3 := Tryz.underlying3
 a3 := Tryz.isAgg3
 z3 := Tryz.sizeOf3
 v3 := Tryz.zeroValue3
 t4 := Tryz.underlying4
 a4 := Tryz.isAgg4
 z4 := Tryz.sizeOf4
 v4 := Tryz.zeroValue4
 t5 := Tryz.underlying5
 a5 := Tryz.isAgg5
 z5 := Tryz.sizeOf5
 v5 := Tryz.zeroValue5
 t9 := Tryz.underlying9
 a9 := Tryz.isAgg9
 z9 := Tryz.sizeOf9
 v9 := Tryz.zeroValue9
 t46 := Tryz.underlying154
 a46 := Tryz.isAgg154
 z46 := Tryz.sizeOf154
 v46 := Tryz.zeroValue154
 t51 := Tryz.underlying208
 a51 := Tryz.isAgg208
 z51 := Tryz.sizeOf208
 v51 := Tryz.zeroValue208
 t146 := Tryz.underlying269
 a146 := Tryz.isAgg269
 z146 := Tryz.sizeOf269
 v146 := Tryz.zeroValue269
 g1 := by kernel_rfl }
open Go.RowKit Go.Sort Go.Lib in
theorem Tryz.strings_Contains (s sub : ByteArray) (m : Int) (w : World) (hs : s.size < 4294967281) (hm : w.cell? ⟨0, 0, none⟩ = some (.int .i64 m)) :
  Calls Tryz.prog 99 #[.string s, .string sub] w fun e w' => e = .returned (.bool (Lib.contains s.data.toList sub.data.toList)) /\ w' = w := Any.strings_Contains Tryz.lays144 s sub m w hs hm
def Tryz.lays146_ren : Go.Shelf.Ren := ⟨fun | 146 => 148 | 221 => 196 | 268 => 230 | 138 => 231 | 143 => 152 | 195 => 259 | 197 => 260 | 218 => 261 | 219 => 197 | 260 => 278 | 217 => 232 | 225 => 233 | 224 => 234 | 267 => 235 | 266 => 262 | 314 => 263 | n => n, fun | 9 => 9 | 31 => 23 | 3 => 3 | 4 => 4 | 0 => 0 | 105 => 267 | 21 => 21 | 5 => 5 | 46 => 154 | 119 => 296 | 139 => 299 | 138 => 298 | 146 => 269 | 51 => 208 | n => n, fun | 1 => 0 | 3 => 6 | 4 => 7 | n => n⟩
theorem Tryz.lays146 : Go.Proofs.Lays.n146 Tryz.prog Tryz.lays146_ren := {
 mixed := by kernel_rfl
 f138 := Tryz.func231.trans (congrArg some (by kernel_rfl))
 f143 := Tryz.func152.trans (congrArg some (by kernel_rfl))
 f146 := Tryz.func148.trans (congrArg some (by kernel_rfl))
 f195 := Tryz.func259.trans (congrArg some (by kernel_rfl))
 f197 := Tryz.func260.trans (congrArg some (by kernel_rfl))
 f217 := Tryz.func232.trans (congrArg some (by kernel_rfl))
 f218 := Tryz.func261.trans (congrArg some (by kernel_rfl))
 f219 := Tryz.func197.trans (congrArg some (by kernel_rfl))
 f221 := Tryz.func196.trans (congrArg some (by kernel_rfl))
 f224 := Tryz.func234.trans (congrArg some (by kernel_rfl))
 f225 := Tryz.func233.trans (congrArg some (by kernel_rfl))
 f260 := Tryz.func278.trans (congrArg some (by kernel_rfl))
 f266 := Tryz.func262.trans (congrArg some (by kernel_rfl))
 f267 := Tryz.func235.trans (congrArg some (by kernel_rfl))
 f268 := Tryz.func230.trans (congrArg some (by kernel_rfl))
 f314 := Tryz.func263.trans (congrArg some (by kernel_rfl))
 t0 := Tryz.underlying0
 a0 := Tryz.isAgg0
 z0 := Tryz.sizeOf0
 v0 := Tryz.zeroValue0
 t3 := Tryz.underlying3
 a3 := Tryz.isAgg3
 z3 := Tryz.sizeOf3
 v3 := Tryz.zeroValue3
 t4 := Tryz.underlying4
 a4 := Tryz.isAgg4
 z4 := Tryz.sizeOf4
 v4 := Tryz.zeroValue4
 t5 := Tryz.underlying5
 a5 := Tryz.isAgg5
 z5 := Tryz.sizeOf5
 v5 := Tryz.zeroValue5
 t9 := Tryz.underlying9
 a9 := Tryz.isAgg9
 z9 := Tryz.sizeOf9
 v9 := Tryz.zeroValue9
 t21 := Tryz.underlying21
 a21 := Tryz.isAgg21
 z21 := Tryz.sizeOf21
 v21 := Tryz.zeroValue21
 t31 := Tryz.underlying23
 a31 := Tryz.isAgg23
 z31 := Tryz.sizeOf23
 v31 := Tryz.zeroValue23
 t46 := Tryz.underlying154
 a46 := Tryz.isAgg154
 z46 := Tryz.sizeOf154
 v46 := Tryz.zeroValue154
 t51 := Tryz.underlying208
 a51 := Tryz.isAgg208
 z51 := Tryz.sizeOf208
 v51 := Tryz.zeroValue208
 t105 := Tryz.underlying267
 a105 := Tryz.isAgg267
 z105 := Tryz.sizeOf267
 v105 := Tryz.zeroValue267
 t119 := Tryz.underlying296
 a119 := Tryz.isAgg296
 z119 := Tryz.sizeOf296
 t138 := Tryz.underlying298
 a138 := Tryz.isAgg298
 z138 := Tryz.sizeOf298
 v138 := Tryz.zeroValue298
 t139 := Tryz.underlying299
 a139 := Tryz.isAgg299
 z139 := Tryz.sizeOf299
 v139 := Tryz.zeroValue299
 t146 := Tryz.underlying269
 a146 := Tryz.isAgg269
 z146 := Tryz.sizeOf269
 v146 := Tryz.zeroValue269
 g1 := by kernel_rfl
 g3 := by kernel_rfl
 g4 := by kernel_rfl }
open Go.RowKit Go.Sort Go.Lib in
theorem Tryz.strings_Split (s sep : ByteArray) (m : Int) (w : World) (hs : s.size < 4294967281) (hm : w.cell? ⟨0, 0, none⟩ = some (.int .i64 m)) (h1 : 1 <= sep.size) :
  Calls Tryz.prog 148 #[.string s, .string sep] w fun e w' =>
   e = .returned (.slice (some ⟨w.heap.size, 0, none⟩) (Lib.countB s sep + 1) (Lib.countB s sep + 1)) /\ w' = w.alloc (.cells ((Lib.splitB sep 0 (Lib.countB s sep) s).map Value.string).toArray 9) := Any.strings_Split Tryz.lays146 (by kernel_rfl) s sep m w hs hm h1
end Go.Proofs

namespace Go.Proofs.YtccikcpcfdjobaaGreatDoor
section
open Go.RowKit
theorem y4T (y : Int) (w : World) : Calls Tryz.prog 98 #[.int .i64 y] w fun e w' => e = .returned (.bool (decide (1 <= y /\ y <= 3000))) /\ Below w.heap.size w w' := by
 have H0 := jQ (fun W => y0K 1 y 3000 W);obtain ⟨R, hR⟩ := zE (decide (1 <= y /\ y <= 3000));rw [hR] at H0 ⊢;clear hR;go_enter Tryz.func98, Tryz.ntmps98;go_wp2_with fail;refine (H0.o _).mono ?_;rintro e w' ⟨rfl, rfl⟩;go_wp2_with fail;go_ret;exact ⟨rfl, Below.refl _ _⟩
theorem y9N (r : Int) (w : World) : Calls Tryz.prog 159 #[.int .i32 r] w fun e w' => e = .returned (.bool (r == 32)) /\ w' = w := by
 go_enter Tryz.func159, Tryz.ntmps159;go_wp2_with fail;go_ret;exact ⟨rfl, rfl⟩
theorem y6u (B : Nat) (w : World) (n : Nat) : Below B w (w.drewN n) := ⟨rfl, rfl, rfl, Nat.le_refl _, fun _ _ => rfl⟩
theorem y1V (s : Cs.Bs) (hs : s.length <= 999999) (w : World) (hE : Env w) :
  Calls Tryz.prog 103 #[.string ⟨s.toArray⟩] w fun e w' => ∃ b, w.heap.size <= b /\ e = .returned (.pointer (some ⟨b, 0, none⟩)) /\ Wz w' b (Dd.fieldsF s) /\ Below w.heap.size w w' := by
 obtain ⟨m, hm⟩ := hE.mx;have hg := hE.gl;have HC := jQ (Tryz.strings_Cut ⟨s.toArray⟩ ⟨#[35]⟩ m w (by simp [ByteArray.size]; omega) hm);have hcut : (Lib.cut s [35]).1 = Dd.codeF s := Dd.yB5 s;have hcl : (Dd.codeF s).length <= s.length := (List.takeWhile_prefix _).length_le;have hsum := Dd.y8b s;have hP : ∀ W, PredAtRunes Tryz.prog 159 #[] (fun r => decide (r = 32)) W := by
  intro W V x hx hb;refine (y9N (x : Int) _).mono ?_;rintro e w' ⟨rfl, rfl⟩;refine ⟨?_, 0, rfl⟩;congr 2;by_cases h : x = 32
  ·subst h; rfl
  have h2 : ¬ (x : Int) = 32 := by omega
  simp [h, h2]
 have HF := jQ (fun W => Tryz.strings_FieldsFunc_runes 159 #[] (enters_of Tryz.func159 (by kernel_rfl) rfl) (fun r => decide (r = 32)) ⟨(Dd.codeF s).toArray⟩ W (by simp [ByteArray.size]; omega) (hP W));have hgo : Lib.goFieldsP (fun r => decide (r = 32)) ⟨(Dd.codeF s).toArray⟩ = (Dd.fieldsF s).map Dd.bat := Dd.y44 (Dd.codeF s);rw [hgo] at HF;obtain ⟨X, hX⟩ := zE (Lib.cut s [35]);rw [hX] at hcut;simp only [] at HC;rw [hX, hcut] at HC;obtain ⟨FL, hFL⟩ := zE (Dd.fieldsF s);rw [hFL] at HF hsum ⊢;obtain ⟨CF, hCF⟩ := zE (Dd.codeF s);rw [hCF] at HC HF;simp only [List.length_map] at HF;have HSUM := jQ hsum;clear hgo hP hcut hX hFL hCF hcl hsum hm hE;go_enter Tryz.func103, Tryz.ntmps103;go_wp2_with fail;refine HC.o.mono ?_;rintro e w1 ⟨rfl, n, rfl⟩;go_wp2_with fail;refine (HF.o _).mono ?_;rintro e w2 ⟨A, rfl, hA, hown, hb⟩;have HB := jQ ((y6u w.heap.size w n).trans hb);have HO := jQ hown;clear hown hb;go_wp2_with fail;go_ret;refine ⟨w2.heap.size, HB.o.size, rfl, ⟨⟨some ⟨A, 0, none⟩, FL.length, ?_, ?_, Nat.le_refl _⟩, by have := HSUM.o; omega, by have := HB.o.size; omega⟩, HB.o.alloc HB.o.size _⟩
 ·exact Bk.new _ _ _
 obtain ⟨A', c', e1, hr, _⟩ := y0e HO.o HO.o.1;injection e1 with e2;subst e2;have hxs : (FL.map Dd.bat).map Value.string = wcells FL := by simp [wcells, sv, Dd.bat]
 rw [hxs] at hr;exact hr.below ((Below.refl _ _).alloc (Nat.le_refl _) _) (Nat.le_refl _)
def deval (d : Dd.De) (A : Option Addr) (c : Nat) : Value := .agg #[.string ⟨d.name.toArray⟩, .int .i64 d.year, .int .i64 d.rank, .slice A d.calls.length c]
theorem y3E (d : Dd.De) (A : Option Addr) (c : Nat) : deval d A c = .agg #[.string ⟨d.name.toArray⟩, .int .i64 d.year, .int .i64 d.rank, .slice A d.calls.length c] := rfl
theorem y75 (d : Dd.De) (A : Option Addr) (c : Nat) (w : World) : Calls Tryz.prog 205 #[deval d A c] w fun e w' => e = .returned (.bool (Dd.dated d)) /\ Below w.heap.size w w' := by
 have hd : Dd.dated d = (decide (1 <= d.year /\ d.year <= 3000) && decide (0 <= d.rank /\ d.rank <= 1000)) := rfl;rw [hd, y3E];obtain ⟨name, year, rank, calls⟩ := d;dsimp only;have H0 := jQ (fun W => y4T year W);have H1 := jQ (fun W => y0K 0 rank 1000 W);have hB : ∀ o, Below w.heap.size w (w.alloc o) := fun o => (Below.refl _ _).alloc (Nat.le_refl _) o;have K := jQ (fun W (hb : Below (w.heap.size + 1) (w.alloc (.cells #[.string ⟨name.toArray⟩, .int .i64 year, .int .i64 rank, .slice A calls.length c] 226)) W) => ((Bk.new w 226 #[.string ⟨name.toArray⟩, .int .i64 year, .int .i64 rank, .slice A calls.length c]).below hb (Nat.lt_succ_self _)).cell 2);have HB := jQ hB;obtain ⟨y, hy⟩ := zE (decide (1 <= year /\ year <= 3000));obtain ⟨z, hz⟩ := zE (decide (0 <= rank /\ rank <= 1000));rw [hy] at H0 ⊢;rw [hz] at H1 ⊢;clear hy hz hB hd;rcases y with _ | _
 ·go_enter Tryz.func205, Tryz.ntmps205;go_wp2_with fail;refine (H0.o _).mono ?_;rintro e w1 ⟨rfl, hb⟩;have HB1 := jQ ((HB.o _).trans (hb.mono (HB.o _).size));clear hb;go_wp2_with fail;go_ret;exact ⟨rfl, HB1.o⟩
 go_enter Tryz.func205, Tryz.ntmps205;go_wp2_with fail;refine (H0.o _).mono ?_;rintro e w1 ⟨rfl, hb⟩;have HB1 := jQ ((HB.o _).trans (hb.mono (HB.o _).size));have c2 := (K.o _ (by simpa using hb)).trans rfl;clear hb;go_wp2_with fail;refine (H1.o _).mono ?_;rintro e w2 ⟨rfl, rfl⟩;go_wp2_with fail;go_ret;exact ⟨rfl, HB1.o⟩
theorem y5h (d : Dd.De) (A : Option Addr) (c : Nat) (w : World) : Calls Tryz.prog 207 #[deval d A c] w fun e w' => e = .returned (.string ⟨d.name.toArray⟩) /\ Below w.heap.size w w' := by
 rw [y3E];have HB := jQ (fun o => (Below.refl w.heap.size w).alloc (Nat.le_refl _) o);go_enter Tryz.func207, Tryz.ntmps207;go_wp2_with fail;go_ret;exact ⟨rfl, HB.o _⟩
end

section
open Go.RowKit
structure Step {σ : Type} (kf : Nat) (first capS : Array Value) (Inv : Nat -> σ -> (Nat -> Prop) -> World -> Prop) (step : σ -> List Cs.Bs -> Int × σ) (B0 : Nat) : Prop where
 ent : ∀ args w, (callFunc kf args).run Tryz.prog w = .ok (.enter kf args) w
 keep : ∀ m s R V V' X, Inv m s R V -> But X V V' -> (∀ k, X k -> ¬ R k /\ B0 <= k) -> Inv m s R V'
 low : ∀ m s R V, Inv m s R V -> ∀ k, R k -> 9 <= k /\ k < V.heap.size
 step : ∀ m s R V b ws, m <= 1000000 -> Inv m s R V -> Wz V b ws -> ws ≠ [] -> ¬ R b -> B0 <= b -> Env V -> Calls Tryz.prog kf (first ++ #[.pointer (some ⟨b, 0, none⟩)] ++ capS) V fun e V' =>
  But (fun k => k = b ∨ R k) V V' /\ (((step s ws).1 = 0 /\ e = .returned (.tuple #[]) /\ ∃ R', Inv (m + 1) (step s ws).2 R' V' /\ ∀ k, R' k -> R k ∨ V.heap.size <= k) ∨ ((step s ws).1 ≠ 0 /\ e = .panicked [pan (step s ws).1]))
theorem y4E {Q : Ending -> World -> Prop} (kf : Nat) (first capS : Array Value) (ent : ∀ args w, (callFunc kf args).run Tryz.prog w = .ok (.enter kf args) w) (g gt b : Nat) (V : World) (kg : Bk V g 125 #[.func (.func kf) first capS]) (kt : Bk V gt 121 #[.pointer (some ⟨b, 0, none⟩)])
  (h : Calls Tryz.prog kf (first ++ #[.pointer (some ⟨b, 0, none⟩)] ++ capS) V fun e V' => (e = .returned (.tuple #[]) ∨ ∃ n, e = .panicked [pan n]) /\ Q e V') :
  Calls Tryz.prog 149 #[.pointer (some ⟨g, 0, none⟩), .pointer (some ⟨gt, 0, none⟩)] V Q := by
 have c0 := (kg.cell 0).trans rfl;have c1 := (kt.cell 0).trans rfl;have H := jQ h;clear h kg kt;go_enter Tryz.func149, Tryz.ntmps149;go_wp2_with fail;refine H.o.mono ?_;rintro e V' ⟨(rfl | ⟨n, rfl⟩), hq⟩
 ·have HQ := jQ hq;clear hq;go_wp2_with fail
  go_end0
  exact HQ.o
 have HQ := jQ hq;clear hq;go_wp2_with fail;exact ⟨rfl, HQ.o⟩
theorem But.new_set' {X : Nat -> Prop} {w w' : World} (h : But X w w') {p : Addr} (hp : w.heap.size <= p.block) (u : Value) : But X w (w'.setCell p u) :=
 ⟨h.os, h.tape, h.output, by have := h.size; simpa [World.setCell] using this, fun k hk hx => (Below.heap_setCell _ _ _ _ (by omega)).trans (h.block k hk hx)⟩
theorem But.new_row {X : Nat -> Prop} {w w' : World} (h : But X w w') {g : Nat} (hg : w.heap.size <= g) (cs : Array Value) : But X w (w'.setRow g cs) :=
 ⟨h.os, h.tape, h.output, by rw [y3X]; exact h.size, fun k hk hx => by
  simp only [World.setRow, Array.getElem?_modify];rw [if_neg (by omega)];exact h.block k hk hx⟩
def Dd.sourceG {σ : Type} (step : σ -> List Cs.Bs -> Int × σ) (s : σ) (src : Cs.Bs) : (Int × Int) × σ := if 20000 < src.length then ((2, 0), s) else Dd.linesG step s (Dd.linesF src) 1
structure Lp {σ : Type} (kf : Nat) (first capS : Array Value) (Inv : Nat -> σ -> (Nat -> Prop) -> World -> Prop) (R0 : Nat -> Prop) (w w1 : World) (lines : List Cs.Bs) (m : Nat) (s : σ) (R : Nat -> Prop) (W : World) : Prop where
 but : But R0 w W
 inv : Inv m s R W
 hR : ∀ x, R x -> R0 x ∨ w1.heap.size <= x
 kF : Bk W w.heap.size 125 #[.func (.func kf) first capS]
 kR : Bk W (w.heap.size + 1) 70 #[.int .i64 0, .int .i64 0]
 ln : Rd W w1.heap.size 1 (some ⟨w.heap.size + 1 + 1, 0, none⟩) lines.length (wcells lines)
 env : Env W
 sz : w1.heap.size <= W.heap.size
section
variable {σ : Type} {kf : Nat} {first capS : Array Value} {Inv : Nat -> σ -> (Nat -> Prop) -> World -> Prop} {R0 : Nat -> Prop} {w w1 : World} {lines : List Cs.Bs} {m m' : Nat} {s s' : σ} {R R' : Nat -> Prop} {W W' : World} {step : σ -> List Cs.Bs -> Int × σ}
theorem Lp.next (h : Lp kf first capS Inv R0 w w1 lines m s R W) (S : Step kf first capS Inv step w.heap.size) (hb : Below W.heap.size W W') : Lp kf first capS Inv R0 w w1 lines m s R W' :=
 ⟨h.but.trans (But.of hb), S.keep _ _ _ _ _ (fun _ => False) h.inv (But.of hb) (fun k hk => hk.elim), h.hR, h.kF.below hb h.kF.lt, h.kR.below hb h.kR.lt, h.ln.below hb h.sz, h.env.step hb, Nat.le_trans h.sz hb.size⟩
theorem Lp.change {X : Nat -> Prop} (h : Lp kf first capS Inv R0 w w1 lines m s R W) (hz : w1.heap.size = w.heap.size + 1 + 1 + 1) (hr0 : ∀ k, R0 k -> 9 <= k /\ k < w.heap.size) (h9 : 9 <= w.heap.size)
  (hb : But X W W') (hX : ∀ k, X k -> R0 k ∨ w1.heap.size <= k) (hi : Inv m' s' R' W') (hR' : ∀ x, R' x -> R0 x ∨ w1.heap.size <= x) : Lp kf first capS Inv R0 w w1 lines m' s' R' W' := by
 have hg : ∀ g, w.heap.size <= g -> g < w1.heap.size -> ¬ X g := fun g h1 h2 hx => by
  rcases hX g hx with h | h
  ·have := hr0 g h; omega
  omega
 have hsz := h.but.size;refine ⟨?_, hi, hR', hb.bk h.kF (hg _ (Nat.le_refl _) (by omega)), hb.bk h.kR (hg _ (by omega) (by omega)), h.ln.keep' hb (fun _ => hg _ (by omega) (by omega)), h.env.but hb (fun k hk => by rcases hX k hk with h | h; exact (hr0 k h).1; omega), Nat.le_trans h.sz hb.size⟩;exact ⟨hb.os.trans h.but.os, hb.tape.trans h.but.tape, hb.output.trans h.but.output, Nat.le_trans hsz hb.size, fun k hk hx => (hb.block k (Nat.lt_of_lt_of_le hk hsz) (fun hx2 => by
  rcases hX k hx2 with h | h
  ·exact hx h
  omega)).trans (h.but.block k hk hx)⟩
theorem Lp.row (h : Lp kf first capS Inv R0 w w1 lines m s R W) (hz : w1.heap.size = w.heap.size + 1 + 1 + 1) (hr0 : ∀ k, R0 k -> 9 <= k /\ k < w.heap.size) (cs : Array Value) : But R0 w (W.setRow (w.heap.size + 1) cs) /\ But (fun x => x = w.heap.size + 1) W (W.setRow (w.heap.size + 1) cs) /\ ∀ k, k = w.heap.size + 1 -> ¬ R k /\ w.heap.size <= k := by
 have h2 := But.row (X := fun x => x = w.heap.size + 1) (But.refl _ W) rfl cs;refine ⟨⟨h2.os.trans h.but.os, h2.tape.trans h.but.tape, h2.output.trans h.but.output, Nat.le_trans h.but.size h2.size, fun k hk hx => (h2.block k (Nat.lt_of_lt_of_le hk h.but.size) (by omega)).trans (h.but.block k hk hx)⟩, h2, fun k hk => ⟨fun hr => ?_, by omega⟩⟩;rcases h.hR k hr with h3 | h3
 ·have := hr0 k h3; omega
 omega
end
set_option maxHeartbeats 16000000 in
theorem y2K {σ : Type} (kf : Nat) (first capS : Array Value) (Inv : Nat -> σ -> (Nat -> Prop) -> World -> Prop) (step : σ -> List Cs.Bs -> Int × σ) (s0 : σ) (R0 : Nat -> Prop) (w : World) (S : Step kf first capS Inv step w.heap.size) (hI : Inv 0 s0 R0 w) (hE : Env w) (src : Cs.Bs) (hs : src.length <= 999999) :
  Calls Tryz.prog 95 #[.string ⟨src.toArray⟩, .func (.func kf) first capS] w fun e w' =>
   e = .returned (.agg #[.int .i64 (Dd.sourceG step s0 src).1.1, .int .i64 (Dd.sourceG step s0 src).1.2]) /\ But R0 w w' /\ ((Dd.sourceG step s0 src).1 = (0, 0) -> ∃ R' m, m <= 1000000 /\ Inv m (Dd.sourceG step s0 src).2 R' w' /\ ∀ k, R' k -> R0 k ∨ w.heap.size <= k) := by
 have hmf := zM;have hr0 := S.low _ _ _ _ hI;have h9 := hE.gl;have hb0 := ((Below.refl w.heap.size w).alloc (Nat.le_refl _) (.cells #[.func (.func kf) first capS] 125)).alloc (by simp) (.cells #[.int .i64 0, .int .i64 0] 70);have k0 := (Bk.new w 125 #[.func (.func kf) first capS]).alloc (.cells #[.int .i64 0, .int .i64 0] 70);have k1 := Bk.new (w.alloc (.cells #[.func (.func kf) first capS] 125)) 70 #[.int .i64 0, .int .i64 0];rw [World.size_alloc] at k1;have HB0 := jQ hb0;have K0 := jQ k0;have K1 := jQ k1;have HE0 := jQ (hE.step hb0);have HS := jQ S;have HI := jQ hI;have HR0 := jQ hr0;by_cases hbig : 20000 < src.length
 ·have HG := jQ (show Dd.sourceG step s0 src = ((2, 0), s0) by unfold Dd.sourceG; rw [if_pos hbig]);rw [HG.o];have g1 : decide ((src.length : Int) > 20000) = true := decide_eq_true (by omega);have n0 := (k1.cell 0).trans rfl;have n1 := (k1.cell 1).trans rfl;have m0 := k1.frozen 0;have m1 := k1.frozen 1;have l1 := k1.lt;clear S hI hE hr0 hb0 k0 k1 hbig;go_enter Tryz.func95, Tryz.ntmps95;go_wp2_with fail;have kk := Bk.new (w.alloc (.cells #[.func (.func kf) first capS] 125)) 70 #[.int .i64 2, .int .i64 0];rw [World.size_alloc] at kk;have hb2 := ((Below.refl w.heap.size w).alloc (Nat.le_refl _) (.cells #[.func (.func kf) first capS] 125)).alloc (by simp) (.cells #[.int .i64 2, .int .i64 0] 70);exact bodyPost_ret (y09 rfl _ _ (w.heap.size + 1) 70 _ (0, 0) _ rfl kk Tryz.underlying70 rfl (by kernel_rfl)) rfl ⟨rfl, But.of hb2, fun h => by cases h⟩
 have hG : Dd.sourceG step s0 src = Dd.linesG step s0 (Dd.linesF src) 1 := by unfold Dd.sourceG; rw [if_neg hbig]
 rw [hG];have g1 : decide ((src.length : Int) > 20000) = false := decide_eq_false (by omega);obtain ⟨m, hm⟩ := HE0.o.mx;have hsp := Tryz.strings_Split ⟨src.toArray⟩ ⟨#[10]⟩ m _ (by simp [ByteArray.size]; omega) hm (by decide);have hln := Dd.y7A src;have hlen := Dd.yAE src;have hcnt : Lib.countB ⟨src.toArray⟩ ⟨#[10]⟩ = src.count 10 := by
  have : Lib.countB ⟨src.toArray⟩ ⟨#[10]⟩ = Lib.count src [10] := rfl;rw [this, Lib.count, Dd.y1L 10 _ _ (by omega)]
 rw [hcnt] at hsp hln;obtain ⟨L, hL⟩ := zE (Lib.splitB ⟨#[10]⟩ 0 (src.count 10) ⟨src.toArray⟩);rw [hL] at hsp hln;have hcells : L.map Value.string = wcells (Dd.linesF src) := by rw [<- hln]; simp [wcells, sv]
 rw [hcells, <- hlen] at hsp;have hsh := Dd.y79 src;have hc2 : src.count 10 <= src.length := List.count_le_length;obtain ⟨lines, hlines⟩ := zE (Dd.linesF src);rw [hlines] at hsp hlen hsh ⊢;have hn : lines.length <= 1000000 := by omega
 have hshort : ∀ x ∈ lines, x.length <= 999999 := fun x hx => by have := hsh x hx; omega
 have HSP := jQ hsp;have HSH := jQ hshort;clear S hI hE hr0 hb0 k0 k1 hbig hG hm hsp hln hlen hcnt hL hcells hsh hc2 hlines hshort L m;go_enter Tryz.func95, Tryz.ntmps95;go_wp2_with fail;refine HSP.o.mono ?_;rintro e W1 ⟨rfl, hW1⟩;have hz1 : W1.heap.size = w.heap.size + 1 + 1 + 1 := by rw [hW1]; simp
 have hb1 : Below w.heap.size w W1 := by rw [hW1]; exact HB0.o.alloc HB0.o.size _
 have hbk : Bk W1 (w.heap.size + 1 + 1) 9 (wcells lines).toArray := by
  rw [hW1];have := Bk.new ((w.alloc (.cells #[.func (.func kf) first capS] 125)).alloc (.cells #[.int .i64 0, .int .i64 0] 70)) 9 (wcells lines).toArray
  rwa [World.size_alloc, World.size_alloc] at this
 have hbW : Below ((w.alloc (.cells #[.func (.func kf) first capS] 125)).alloc (.cells #[.int .i64 0, .int .i64 0] 70)).heap.size ((w.alloc (.cells #[.func (.func kf) first capS] 125)).alloc (.cells #[.int .i64 0, .int .i64 0] 70)) W1 := by rw [hW1]; exact (Below.refl _ _).alloc (Nat.le_refl _) _
 have hL0 : Lp kf first capS Inv R0 w W1 lines 0 s0 R0 W1 := by
  refine ⟨But.of hb1, HS.o.keep _ _ _ _ _ (fun _ => False) HI.o (But.of hb1) (fun k hk => hk.elim), fun x hx => .inl hx, K0.o.below hbW K0.o.lt, K1.o.below hbW K1.o.lt, ?_, HE0.o.step hbW, Nat.le_refl _⟩;refine ⟨by simp [wcells], fun _ => ⟨_, 0, rfl, hbk.lt, fun j hj => ?_⟩⟩;rw [Nat.zero_add, hbk.cell j, List.getElem?_toArray]
 have HL0 := jQ hL0;have HZ1 := jQ hz1;simp only [World.size_alloc];clear hW1 hz1 hb1 hbk hbW hL0 K0 K1 HB0 HE0 HSP HI;go_wp2_with fail;go_loopw [16] (fun I wr => ∃ (k m : Nat) (s : σ) (R : Nat -> Prop), k <= lines.length /\ m <= k /\ I = .int .i64 k /\ Dd.linesG step s (lines.drop k) ((k : Int) + 1) = Dd.linesG step s0 lines 1 /\ Lp kf first capS Inv R0 w W1 lines m s R wr) (fun I _ => lines.length - (intOf I).toNat)
 case atStart => exact ⟨0, 0, s0, R0, Nat.zero_le _, Nat.zero_le _, rfl, rfl, HL0.o⟩
 obtain ⟨k, m, s, R, hk, hmk, rfl, hrun, hL⟩ := hrel;have HRUN := jQ hrun;have HL := jQ hL;clear hrun;by_cases hlt : k < lines.length
 ·obtain ⟨x, hx⟩ := zE (lines[k]);have hxs := HSH.o x (by rw [<- hx]; exact List.getElem_mem hlt);have hdrop : lines.drop k = x :: lines.drop (k + 1) := by rw [<- hx, List.drop_eq_getElem_cons hlt]
  have HDR := jQ (show Dd.linesG step s (x :: lines.drop (k + 1)) ((k : Int) + 1) = Dd.linesG step s0 lines 1 by rw [<- hdrop]; exact HRUN.o);obtain ⟨b', off', e1, _, hc⟩ := hL.ln.text hlt;obtain ⟨rfl, rfl⟩ : w.heap.size + 1 + 1 = b' /\ 0 = off' := by simpa using e1
  rw [hx, Nat.zero_add] at hc;have hwr : IntKind.i64.wrap ((k : Int) + 1) = ((k + 1 : Nat) : Int) := IntWalk.i64_in _ (by omega);clear hL e1 hdrop hx;go_wp2_with fail;refine (y1V x hxs _ HL.o.env).mono ?_;rintro e w2 ⟨b, hb0, rfl, hz, hb⟩;have hl2 := HL.o.next HS.o hb;have hb3 := (Below.refl w2.heap.size w2).alloc (Nat.le_refl _) (.cells #[.pointer (some ⟨b, 0, none⟩)] 121);have hl3 := hl2.next HS.o hb3;have kt := Bk.new w2 121 #[.pointer (some ⟨b, 0, none⟩)];have hz3 := hz.below hb3;obtain ⟨w3, hw3⟩ := zE (w2.alloc (.cells #[.pointer (some ⟨b, 0, none⟩)] 121));obtain ⟨gt, hgt⟩ := zE (w2.heap.size);rw [hw3] at hb3 hl3 kt hz3;rw [hgt] at kt;have hbw : wr.heap.size <= b := hb0;have hbg : b < gt := by rw [<- hgt]; exact hz.lt
  have hsz1 := HL.o.sz;have HW3 := jQ hw3;have HL3 := jQ hl3;have HZ3 := jQ hz3;have KT := jQ kt;clear hz hb hl2 hb3 hl3 hw3 kt hz3 hb0;obtain ⟨ws, hws⟩ := zE (Dd.fieldsF x);rw [hws] at HZ3;obtain ⟨Aw, cw, kb, rb, hcw⟩ := HZ3.o.ex;have y0 := (kb.cell 0).trans rfl;have t0 := (KT.o.cell 0).trans rfl;rw [<- HW3.o] at y0 t0;have HDR2 := jQ (show (if ws = [] then Dd.linesG step s (lines.drop (k + 1)) ((k : Int) + 1 + 1) else if (step s ws).1 = 0 then Dd.linesG step (step s ws).2 (lines.drop (k + 1)) ((k : Int) + 1 + 1) else (((step s ws).1, (k : Int) + 1), s)) = Dd.linesG step s0 lines 1 by
   have h := HDR.o;rw [Dd.linesG, hws] at h;exact h)
  have lt0 := KT.o.lt;have ly0 := kb.lt;clear kb rb hcw hws hc;by_cases hwe : ws = []
  ·have HD3 := jQ ((if_pos hwe).symm.trans HDR2.o);have g5 : ws.length = 0 := by rw [hwe]; rfl
   clear hwe;go_wp2_with fail;go_roundw
   case rel => exact ⟨k + 1, m, s, R, by omega, by omega, by go_num, HD3.o, HW3.o ▸ HL3.o⟩
   case measure => simp [intOf]; omega
  have HD3 := jQ ((if_neg hwe).symm.trans HDR2.o);have g5 : ((ws.length : Int) == 0) = false := by
   have : ws.length ≠ 0 := fun h => hwe (List.length_eq_zero_iff.1 h);simp [this]
  have HWE := jQ hwe;clear hwe;go_wp2_with fail;rw [HW3.o];have hlow := HS.o.low _ _ _ _ HL.o.inv;have hbR : ¬ R b := fun h => by have := hlow b h; omega
  have hgw : wr.heap.size <= gt := by omega
  have hbe := (Below.refl w3.heap.size w3).alloc (Nat.le_refl _) (.cells #[.int .i64 0] 31);have hl4 := HL3.o.next HS.o hbe;have hz4 := HZ3.o.below hbe;have kt4 := KT.o.below hbe KT.o.lt;have ke := Bk.new w3 31 #[.int .i64 0];have hsz4 : (w3.alloc (.cells #[.int .i64 0] 31)).heap.size = w3.heap.size + 1 := by simp
  have hgt3 : gt < w3.heap.size := KT.o.lt;have hszw : w.heap.size <= b := by have := HZ1.o; omega
  have hst := HS.o.step m s R _ b ws (by omega) hl4.inv hz4 HWE.o hbR hszw hl4.env;obtain ⟨ge, hge⟩ := zE (w3.heap.size);have hRe : ¬ R ge := fun h => by have := hlow ge h; omega
  have hbe2 : ¬ ge = b := by omega
  have hNB : ¬ (w3.heap.size = b ∨ R w3.heap.size) := by
   rw [hge];exact fun hx => hx.elim hbe2 hRe
  refine (y2N 149 #[] #[.pointer (some ⟨w.heap.size, 0, none⟩), .pointer (some ⟨gt, 0, none⟩)]
   (fun V => (step s ws).1 = 0 /\ ∃ R', Inv (m + 1) (step s ws).2 R' V /\ (∀ k, R' k -> R k ∨ (w3.alloc (.cells #[.int .i64 0] 31)).heap.size <= k) /\ But (fun k => k = b ∨ R k) (w3.alloc (.cells #[.int .i64 0] 31)) V)
   (fun n V => (step s ws).1 ≠ 0 /\ n = (step s ws).1 /\ But (fun k => k = b ∨ R k) (w3.alloc (.cells #[.int .i64 0] 31)) V) w3 (fun W1' e1 => ?clo)
   (fun V hV => by obtain ⟨_, _, _, _, hV⟩ := hV; exact hV.bk ke hNB)
   (fun n V hV => hV.2.2.bk ke hNB) (enters_of Tryz.func149 (by kernel_rfl) rfl)).mono ?_
  case clo =>
   subst e1;refine y4E kf first capS HS.o.ent w.heap.size gt b _ hl4.kF kt4 (hst.mono ?_)
   rintro e V ⟨hbut, (⟨h1, rfl, R', hi, hr⟩ | ⟨h1, rfl⟩)⟩
   ·exact ⟨.inl rfl, .inl ⟨rfl, h1, R', hi, hr, hbut⟩⟩
   exact ⟨.inr ⟨_, rfl⟩, .inr ⟨_, rfl, h1, rfl, hbut⟩⟩
  rw [hge];have HX := jQ (show ∀ x, (x = b ∨ R x) -> R0 x ∨ W1.heap.size <= x from fun x hx => by
   rcases hx with h | h
   ·exact .inr (by omega)
   exact HL.o.hR x h)
  have HL4 := jQ hl4;have HGE := jQ hge;have HSZ4 := jQ hsz4;have HRE := jQ hRe;have hgeW : W1.heap.size <= ge /\ w.heap.size + 1 < ge := by have := HZ1.o; omega
  clear hbe hl4 hz4 kt4 ke hst hsz4 hge hNB hRe hbR hlow y0 t0 lt0 ly0;rintro e w5 ⟨V, n, (⟨rfl, h1, R', hi, hr, hbut⟩ | ⟨h1, rfl, hbut⟩), rfl, rfl⟩
  ·have hR' : ∀ x, R' x -> R0 x ∨ W1.heap.size <= x := fun x hx => by
    rcases hr x hx with h | h
    ·exact HL.o.hR x h
    exact .inr (by have := HSZ4.o; have := HGE.o; omega)
   have hge' : ¬ R' ge := fun h => by
    rcases hr ge h with h | h
    ·exact HRE.o h
    have := HSZ4.o; have := HGE.o; omega
   have hl5 := HL4.o.change HZ1.o HR0.o h9 hbut HX.o hi hR';have hset : But (fun x => x = ge) V (V.setCell ⟨ge, 0, none⟩ (.int .i64 0)) := But.set (X := fun x => x = ge) (But.refl _ _) rfl _;have hl6 := hl5.change HZ1.o HR0.o h9 hset (fun x hx => .inr (by have h2 : x = ge := hx; omega)) (HS.o.keep _ _ _ _ _ _ hi hset (fun x hx => ⟨by rw [show x = ge from hx]; exact hge', by have h2 : x = ge := hx; omega⟩)) hR';have HL6 := jQ hl6;have HD4 := jQ ((if_pos h1).symm.trans HD3.o);clear hl5 hl6 hset hbut hi hr h1;go_wp2_with fail;go_roundw
   case rel => exact ⟨k + 1, m + 1, _, R', by omega, by omega, by go_num, HD4.o, HL6.o⟩
   case measure => simp [intOf]; omega
  have HD4 := jQ ((if_neg h1).symm.trans HD3.o);have g6 : ((step s ws).1 != 0) = true := by simpa using h1
  have hkR : Bk V (w.heap.size + 1) 70 #[.int .i64 0, .int .i64 0] := hbut.bk HL4.o.kR (fun h => by
   rcases HX.o _ h with h | h
   ·have := HR0.o _ h; omega
   have := HZ1.o; omega)
  have hkR2 := hkR.far (p := ⟨ge, 0, none⟩) (show w.heap.size + 1 ≠ ge by omega) (.int .i64 (step s ws).1);have KR2 := jQ hkR2;have hB : But R0 w (V.setCell ⟨ge, 0, none⟩ (.int .i64 (step s ws).1)) := by
   have h := HL4.o.but;refine But.new_set' ⟨hbut.os.trans h.os, hbut.tape.trans h.tape, hbut.output.trans h.output, Nat.le_trans h.size hbut.size, fun x hx1 hx2 => (hbut.block x (Nat.lt_of_lt_of_le hx1 h.size) (fun hx3 => ?_)).trans (h.block x hx1 hx2)⟩ (show w.heap.size <= ge by omega) _;rcases HX.o x hx3 with h4 | h4
   ·exact hx2 h4
   have := HZ1.o; omega
  have HB := jQ (But.new_row hB (show w.heap.size <= w.heap.size + 1 by omega) #[.int .i64 (step s ws).1, .int .i64 ((k + 1 : Nat) : Int)]);have H1 := jQ h1;obtain ⟨er, her⟩ := zE ((step s ws).1);rw [her] at g6 KR2 HB HD4 H1 ⊢;clear hkR hkR2 hB hbut h1 her;go_wp2_with (refine wpList_store_row rfl 70 (.tmp 4) (.tmp 36) rfl (w.heap.size + 1) _ rfl rfl 70 _ KR2.o (by kernel_rfl) rfl (by kernel_rfl) ?_);refine bodyPost_ret (y09 rfl _ _ (w.heap.size + 1) 70 _ (0, 0) _ rfl (KR2.o.row _) Tryz.underlying70 rfl (by kernel_rfl)) rfl ⟨by rw [<- HD4.o], HB.o, fun h => ?_⟩;rw [<- HD4.o] at h;exact absurd (congrArg Prod.fst h) H1.o
 have hkl : k = lines.length := by omega
 subst hkl;have HE := jQ (show Dd.linesG step s0 lines 1 = ((0, 0), s) by rw [<- HRUN.o, List.drop_length]; rfl);rw [HE.o];have n0 := (hL.kR.cell 0).trans rfl;have n1 := (hL.kR.cell 1).trans rfl;have m0 := hL.kR.frozen 0;have m1 := hL.kR.frozen 1;have l1 := hL.kR.lt;clear hL;go_wp2_with (refine wpList_store_row rfl 70 (.tmp 4) (.tmp 38) rfl (w.heap.size + 1) _ rfl rfl 70 _ HL.o.kR (by kernel_rfl) rfl (by kernel_rfl) ?_);obtain ⟨h1, h2, h3⟩ := HL.o.row HZ1.o HR0.o #[.int .i64 0, .int .i64 0];refine bodyPost_ret (y09 rfl _ _ (w.heap.size + 1) 70 _ (0, 0) _ rfl (HL.o.kR.row _) Tryz.underlying70 rfl (by kernel_rfl)) rfl ⟨by rw [HE.o], h1, fun _ => ⟨R, m, by omega, by rw [HE.o]; exact HS.o.keep _ _ _ _ _ _ HL.o.inv h2 h3, fun x hx => ?_⟩⟩;rcases HL.o.hR x hx with h4 | h4
 ·exact .inl h4
 exact .inr (by have := HZ1.o; omega)
end
end Go.Proofs.YtccikcpcfdjobaaGreatDoor
