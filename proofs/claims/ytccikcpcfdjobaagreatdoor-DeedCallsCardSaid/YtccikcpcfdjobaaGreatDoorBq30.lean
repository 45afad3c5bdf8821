/-
  What the claims of layer deed need of the texts Shelf2, DBs, DAs, DCo0.
-/
import Derived.Shelf.Strings.Builder1
import Derived.Shelf.Strings.Builder2
import Derived.Shelf.Strings.OnBuilder
import Derived.Shelf.Small.Bits
import Derived.Shelf.Strings.BuilderF
import Derived.Shelf.Strings.BuilderK
import Derived.Shelf.Utf8.RuneCount
import Derived.Shelf.Strings.Builder2Cap
import Derived.Shelf.Strconv.Atoi
import Derived.Shelf.Strconv.Itoa0
import Derived.Shelf.Strconv.Itoa1
import Derived.Shelf.LaysM
import Derived.Shelf.Strconv.Itoa2
import Derived.Shelf.Strconv.Itoa3
import Derived.Shelf.Strconv.AtoiErrFast
import Derived.Shelf.Strconv.ParseIntEmpty
import Derived.Shelf.Strconv.AtoiFail
import Derived.Shelf.Strconv.Clone
import Derived.Shelf.Strconv.SyntaxError
import Derived.Shelf.LaysC
import Derived.Shelf.Strconv.ToError
import Derived.Shelf.Strconv.Lower
import Derived.Shelf.Strconv.ParseUint10
import Derived.Shelf.Strconv.ParseUint10Empty
import Derived.Shelf.Strconv.ParseUint10Any
import Derived.Shelf.Strconv.ParseInt10
import Derived.Shelf.Strconv.AtoiLong
import Derived.Shelf.Strconv.AtoiInnerAll
import Derived.Shelf.Strconv.RangeError
import Derived.Shelf.Strconv.ToErrorRange
import Derived.Shelf.Strconv.AtoiAll
import Derived.Shelf.Strconv.ErrVarAll
import Derived.Shelf.Strings.Search1
import Derived.Shelf.Strings.Search2
import Derived.Shelf.Strings.Search3
import Derived.Shelf.Strings.Cut
import Derived.Shelf.Strings.Count
import Derived.Shelf.Strings.Shaped
import Derived.Shelf.Sort.Plain
import Derived.Shelf.Strings.Split
import Derived.Shelf.Strings.SplitShaped
import Derived.Shelf.Unicode.Decode
import Derived.Shelf.Strings.RuneCount
import Derived.Shelf.Strings.Explode
import Derived.Shelf.Unicode.DecodeSlow
import Derived.Shelf.Unicode.DecodeAny
import Derived.Shelf.Strings.FieldsFuncAny
import Derived.Shelf.Strings.BuilderCap
import Derived.Shelf.Slices.Turned
import Derived.Ground.Names2Prog
import Derived.Shelf.Slices.SearchI
import Derived.Shelf.Slices.In.SortNone
import Derived.Ground.SlgfProg
import Derived.Shelf.SlicesE.IndexFunc
import Derived.Test.YtccikcpcfdjobaaGreatDoorProg
import Derived.Test.YtccikcpcfdjobaaGreatDoorBq29
import Derived.Test.YtccikcpcfdjobaaGreatDoorBq15
import Derived.Test.YtccikcpcfdjobaaGreatDoorBq05
import Derived.Test.YtccikcpcfdjobaaGreatDoorBq07
import Derived.Test.YtccikcpcfdjobaaGreatDoorBq16
import Derived.Test.YtccikcpcfdjobaaGreatDoorBz
set_option linter.unusedVariables false
set_option linter.unusedSimpArgs false
set_option maxHeartbeats 8000000
set_option maxRecDepth 100000
namespace Go.Proofs
open Go.Shelf
def Tryz.lays229_ren : Go.Shelf.Ren := ⟨fun | 229 => 158 | n => n, fun | 9 => 9 | 40 => 190 | 31 => 23 | 152 => 221 | 3 => 3 | 0 => 0 | 4 => 4 | 21 => 21 | 154 => 223 | n => n, fun | n => n⟩
theorem Tryz.lays229 : Go.Proofs.Lays.n229 Tryz.prog Tryz.lays229_ren := {
 mixed := by kernel_rfl
 f229 := Tryz.func158.trans (congrArg some (by kernel_rfl))
 t0 := Tryz.underlying0
 a0 := Tryz.isAgg0
 z0 := Tryz.sizeOf0
 v0 := Tryz.zeroValue0
 t3 := Tryz.underlying3
 a3 := Tryz.isAgg3
 z3 := Tryz.sizeOf3
 v3 := Tryz.zeroValue3
 t4 := Tryz.underlying4
 a4 := Tryz.isAgg4
 z4 := Tryz.sizeOf4
 v4 := Tryz.zeroValue4
 t9 := Tryz.underlying9
 a9 := Tryz.isAgg9
 z9 := Tryz.sizeOf9
 v9 := Tryz.zeroValue9
 t21 := Tryz.underlying21
 a21 := Tryz.isAgg21
 z21 := Tryz.sizeOf21
 v21 := Tryz.zeroValue21
 t31 := Tryz.underlying23
 a31 := Tryz.isAgg23
 z31 := Tryz.sizeOf23
 v31 := Tryz.zeroValue23
 t40 := Tryz.underlying190
 a40 := Tryz.isAgg190
 z40 := Tryz.sizeOf190
 v40 := Tryz.zeroValue190
 t152 := Tryz.underlying221
 a152 := Tryz.isAgg221
 z152 := Tryz.sizeOf221
 v152 := Tryz.zeroValue221
 t154 := Tryz.underlying223
 a154 := Tryz.isAgg223
 z154 := Tryz.sizeOf223
 v154 := Tryz.zeroValue223 }
open Go.RowKit Go.Sort Go.Lib in
theorem Tryz.strings_FieldsFunc_runes (g : Nat) (lb : Array Value) (eg : ∀ args w, (callFunc g args).run Tryz.prog w = .ok (.enter g args) w) (p : Nat → Bool) (s : ByteArray) (w : World) (hs : s.size ≤ 4294967296) (hp : PredAtRunes Tryz.prog g lb p w) :
  Calls Tryz.prog 158 #[.string s, .func (.func g) #[] lb] w fun e w' => ∃ A, e = .returned (.slice (some ⟨A, 0, none⟩) (Lib.goFieldsP p s).length (Lib.goFieldsP p s).length) ∧ w.heap.size ≤ A ∧
   w'.ownsRow w.heap.size 9 1 (.slice (some ⟨A, 0, none⟩) (Lib.goFieldsP p s).length (Lib.goFieldsP p s).length) (Lib.goFieldsP p s).length ((Lib.goFieldsP p s).map Value.string) ∧ Below w.heap.size w w' := Any.strings_FieldsFunc_runes Tryz.lays229 g lb eg p s w hs hp (by kernel_rfl) (by kernel_rfl)
def Tryz.lays145_ren : Go.Shelf.Ren := ⟨fun | 145 => 157 | 220 => 203 | 219 => 197 | 217 => 232 | 225 => 233 | 224 => 234 | 267 => 235 | 266 => 262 | 314 => 263 | n => n, fun | 9 => 9 | 4 => 4 | 59 => 187 | 3 => 3 | 5 => 5 | 46 => 154 | 146 => 269 | 51 => 208 | n => n, fun | 1 => 0 | n => n⟩
theorem Tryz.lays145 : Go.Proofs.Lays.n145 Tryz.prog Tryz.lays145_ren := {
 mixed := by kernel_rfl
 f145 := Tryz.func157.trans (congrArg some (by kernel_rfl))
 f217 := Tryz.func232.trans (congrArg some (by kernel_rfl))
 f219 := Tryz.func197.trans (congrArg some (by kernel_rfl))
 f220 := Tryz.func203.trans (congrArg some (by kernel_rfl))
 f224 := Tryz.func234.trans (congrArg some (by kernel_rfl))
 f225 := Tryz.func233.trans (congrArg some (by kernel_rfl))
 f266 := Tryz.func262.trans (congrArg some (by kernel_rfl))
 f267 := Tryz.func235.trans (congrArg some (by kernel_rfl))
 f314 := Tryz.func263.trans (congrArg some (by kernel_rfl))
 t3 := Tryz.underlying3
 a3 := Tryz.isAgg3
 z3 := Tryz.sizeOf3
 v3 := Tryz.zeroValue3
 t4 := Tryz.underlying4
 a4 := Tryz.isAgg4
 z4 := Tryz.sizeOf4
 v4 := Tryz.zeroValue4
 t5 := Tryz.underlying5
 a5 := Tryz.isAgg5
 z5 := Tryz.sizeOf5
 v5 := Tryz.zeroValue5
 t9 := Tryz.underlying9
 a9 := Tryz.isAgg9
 z9 := Tryz.sizeOf9
 v9 := Tryz.zeroValue9
 t46 := Tryz.underlying154
 a46 := Tryz.isAgg154
 z46 := Tryz.sizeOf154
 v46 := Tryz.zeroValue154
 t51 := Tryz.underlying208
 a51 := Tryz.isAgg208
 z51 := Tryz.sizeOf208
 v51 := Tryz.zeroValue208
 t59 := Tryz.underlying187
 a59 := Tryz.isAgg187
 z59 := Tryz.sizeOf187
 v59 := Tryz.zeroValue187
 t146 := Tryz.underlying269
 a146 := Tryz.isAgg269
 z146 := Tryz.sizeOf269
 v146 := Tryz.zeroValue269
 g1 := by kernel_rfl }
open Go.RowKit Go.Sort Go.Lib in
theorem Tryz.strings_Cut (s sep : ByteArray) (m : Int) (w : World) (hs : s.size < 4294967281) (hm : w.cell? ⟨0, 0, none⟩ = some (.int .i64 m)) :
  Calls Tryz.prog 157 #[.string s, .string sep] w fun e w' => e = .returned (.tuple #[.string ⟨(Lib.cut s.data.toList sep.data.toList).1.toArray⟩, .string ⟨(Lib.cut s.data.toList sep.data.toList).2.1.toArray⟩, .bool (Lib.cut s.data.toList sep.data.toList).2.2]) ∧ ∃ n, w' = w.drewN n := Any.strings_Cut Tryz.lays145 s sep m w hs hm
def Tryz.lays144_ren : Go.Shelf.Ren := ⟨fun | 144 => 99 | 143 => 152 | 219 => 197 | 217 => 232 | 225 => 233 | 224 => 234 | 267 => 235 | 266 => 262 | 314 => 263 | n => n, fun | 9 => 9 | 4 => 4 | 3 => 3 | 5 => 5 | 46 => 154 | 146 => 269 | 51 => 208 | n => n, fun | 1 => 0 | n => n⟩
theorem Tryz.lays144 : Go.Proofs.Lays.n144 Tryz.prog Tryz.lays144_ren := {
 mixed := by kernel_rfl
 f143 := Tryz.func152.trans (congrArg some (by kernel_rfl))
 f144 := Tryz.func99.trans (congrArg some (by kernel_rfl))
 f217 := Tryz.func232.trans (congrArg some (by kernel_rfl))
 f219 := Tryz.func197.trans (congrArg some (by kernel_rfl))
 f224 := Tryz.func234.trans (congrArg some (by kernel_rfl))
 f225 := Tryz.func233.trans (congrArg some (by kernel_rfl))
 f266 := Tryz.func262.trans (congrArg some (by kernel_rfl))
 f267 := Tryz.func235.trans (congrArg some (by kernel_rfl))
 f314 := Tryz.func263.trans (congrArg some (by kernel_rfl))
 t3 := Tryz.underlying3
 a3 := Tryz.isAgg3
 z3 := Tryz.sizeOf3
 v3 := Tryz.zeroValue3
 t4 := Tryz.underlying4
 a4 := Tryz.isAgg4
 z4 := Tryz.sizeOf4
 v4 := Tryz.zeroValue4
 t5 := Tryz.underlying5
 a5 := Tryz.isAgg5
 z5 := Tryz.sizeOf5
 v5 := Tryz.zeroValue5
 t9 := Tryz.underlying9
 a9 := Tryz.isAgg9
 z9 := Tryz.sizeOf9
 v9 := Tryz.zeroValue9
 t46 := Tryz.underlying154
 a46 := Tryz.isAgg154
 z46 := Tryz.sizeOf154
 v46 := Tryz.zeroValue154
 t51 := Tryz.underlying208
 a51 := Tryz.isAgg208
 z51 := Tryz.sizeOf208
 v51 := Tryz.zeroValue208
 t146 := Tryz.underlying269
 a146 := Tryz.isAgg269
 z146 := Tryz.sizeOf269
 v146 := Tryz.zeroValue269
 g1 := by kernel_rfl }
open Go.RowKit Go.Sort Go.Lib in
theorem Tryz.strings_Contains (s sub : ByteArray) (m : Int) (w : World) (hs : s.size < 4294967281) (hm : w.cell? ⟨0, 0, none⟩ = some (.int .i64 m)) :
  Calls Tryz.prog 99 #[.string s, .string sub] w fun e w' => e = .returned (.bool (Lib.contains s.data.toList sub.data.toList)) ∧ w' = w := Any.strings_Contains Tryz.lays144 s sub m w hs hm
def Tryz.lays146_ren : Go.Shelf.Ren := ⟨fun | 146 => 148 | 221 => 196 | 268 => 230 | 138 => 231 | 143 => 152 | 195 => 259 | 197 => 260 | 218 => 261 | 219 => 197 | 260 => 278 | 217 => 232 | 225 => 233 | 224 => 234 | 267 => 235 | 266 => 262 | 314 => 263 | n => n, fun | 9 => 9 | 31 => 23 | 3 => 3 | 4 => 4 | 0 => 0 | 105 => 267 | 21 => 21 | 5 => 5 | 46 => 154 | 119 => 296 | 139 => 299 | 138 => 298 | 146 => 269 | 51 => 208 | n => n, fun | 1 => 0 | 3 => 6 | 4 => 7 | n => n⟩
theorem Tryz.lays146 : Go.Proofs.Lays.n146 Tryz.prog Tryz.lays146_ren := {
 mixed := by kernel_rfl
 f138 := Tryz.func231.trans (congrArg some (by kernel_rfl))
 f143 := Tryz.func152.trans (congrArg some (by kernel_rfl))
 f146 := Tryz.func148.trans (congrArg some (by kernel_rfl))
 f195 := Tryz.func259.trans (congrArg some (by kernel_rfl))
 f197 := Tryz.func260.trans (congrArg some (by kernel_rfl))
 f217 := Tryz.func232.trans (congrArg some (by kernel_rfl))
 f218 := Tryz.func261.trans (congrArg some (by kernel_rfl))
 f219 := Tryz.func197.trans (congrArg some (by kernel_rfl))
 f221 := Tryz.func196.trans (congrArg some (by kernel_rfl))
 f224 := Tryz.func234.trans (congrArg some (by kernel_rfl))
 f225 := Tryz.func233.trans (congrArg some (by kernel_rfl))
 f260 := Tryz.func278.trans (congrArg some (by kernel_rfl))
 f266 := Tryz.func262.trans (congrArg some (by kernel_rfl))
 f267 := Tryz.func235.trans (congrArg some (by kernel_rfl))
 f268 := Tryz.func230.trans (congrArg some (by kernel_rfl))
 f314 := Tryz.func263.trans (congrArg some (by kernel_rfl))
 t0 := Tryz.underlying0
 a0 := Tryz.isAgg0
 z0 := Tryz.sizeOf0
 v0 := Tryz.zeroValue0
 t3 := Tryz.underlying3
 a3 := Tryz.isAgg3
 z3 := Tryz.sizeOf3
 v3 := Tryz.zeroValue3
 t4 := Tryz.underlying4
 a4 := Tryz.isAgg4
 z4 := Tryz.sizeOf4
 v4 := Tryz.zeroValue4
 t5 := Tryz.underlying5
 a5 := Tryz.isAgg5
 z5 := Tryz.sizeOf5
 v5 := Tryz.zeroValue5
 t9 := Tryz.underlying9
 a9 := Tryz.isAgg9
 z9 := Tryz.sizeOf9
 v9 := Tryz.zeroValue9
 t21 := Tryz.underlying21
 a21 := Tryz.isAgg21
 z21 := Tryz.sizeOf21
 v21 := Tryz.zeroValue21
 t31 := Tryz.underlying23
 a31 := Tryz.isAgg23
 z31 := Tryz.sizeOf23
 v31 := Tryz.zeroValue23
 t46 := Tryz.underlying154
 a46 := Tryz.isAgg154
 z46 := Tryz.sizeOf154
 v46 := Tryz.zeroValue154
 t51 := Tryz.underlying208
 a51 := Tryz.isAgg208
 z51 := Tryz.sizeOf208
 v51 := Tryz.zeroValue208
 t105 := Tryz.underlying267
 a105 := Tryz.isAgg267
 z105 := Tryz.sizeOf267
 v105 := Tryz.zeroValue267
 t119 := Tryz.underlying296
 a119 := Tryz.isAgg296
 z119 := Tryz.sizeOf296
 t138 := Tryz.underlying298
 a138 := Tryz.isAgg298
 z138 := Tryz.sizeOf298
 v138 := Tryz.zeroValue298
 t139 := Tryz.underlying299
 a139 := Tryz.isAgg299
 z139 := Tryz.sizeOf299
 v139 := Tryz.zeroValue299
 t146 := Tryz.underlying269
 a146 := Tryz.isAgg269
 z146 := Tryz.sizeOf269
 v146 := Tryz.zeroValue269
 g1 := by kernel_rfl
 g3 := by kernel_rfl
 g4 := by kernel_rfl }
open Go.RowKit Go.Sort Go.Lib in
theorem Tryz.strings_Split (s sep : ByteArray) (m : Int) (w : World) (hs : s.size < 4294967281) (hm : w.cell? ⟨0, 0, none⟩ = some (.int .i64 m)) (h1 : 1 ≤ sep.size) :
  Calls Tryz.prog 148 #[.string s, .string sep] w fun e w' =>
   e = .returned (.slice (some ⟨w.heap.size, 0, none⟩) (Lib.countB s sep + 1) (Lib.countB s sep + 1)) ∧ w' = w.alloc (.cells ((Lib.splitB sep 0 (Lib.countB s sep) s).map Value.string).toArray 9) := Any.strings_Split Tryz.lays146 (by kernel_rfl) s sep m w hs hm h1
def Tryz.lays189_ren : Go.Shelf.Ren := ⟨fun | 189 => 67 | 125 => 117 | 257 => 116 | 128 => 179 | 129 => 180 | 294 => 170 | 295 => 171 | 296 => 172 | 297 => 173 | 298 => 174 | 299 => 175 | 216 => 176 | 300 => 177 | 301 => 178 | 328 => 216 | 329 => 217 | 330 => 218 | 331 => 219 | 332 => 220 | 215 => 221 | 343 => 249 | n => n, fun | 28 => 28 | 3 => 3 | 46 => 154 | 0 => 0 | 51 => 208 | 53 => 210 | 4 => 4 | 183 => 201 | 182 => 200 | 131 => 205 | 5 => 5 | 9 => 9 | 218 => 235 | 222 => 239 | 228 => 258 | 229 => 255 | n => n, fun | n => n⟩
theorem Tryz.lays189 : Go.Proofs.Lays.n189 Tryz.prog Tryz.lays189_ren := {
 mixed := by kernel_rfl
 f125 := Tryz.func117.trans (congrArg some (by kernel_rfl))
 f128 := Tryz.func179.trans (congrArg some (by kernel_rfl))
 f129 := Tryz.func180.trans (congrArg some (by kernel_rfl))
 f189 := Tryz.func67.trans (congrArg some (by kernel_rfl))
 f215 := Tryz.func221.trans (congrArg some (by kernel_rfl))
 f216 := Tryz.func176.trans (congrArg some (by kernel_rfl))
 f257 := Tryz.func116.trans (congrArg some (by kernel_rfl))
 f294 := Tryz.func170.trans (congrArg some (by kernel_rfl))
 f295 := Tryz.func171.trans (congrArg some (by kernel_rfl))
 f296 := Tryz.func172.trans (congrArg some (by kernel_rfl))
 f297 := Tryz.func173.trans (congrArg some (by kernel_rfl))
 f298 := Tryz.func174.trans (congrArg some (by kernel_rfl))
 f299 := Tryz.func175.trans (congrArg some (by kernel_rfl))
 f300 := Tryz.func177.trans (congrArg some (by kernel_rfl))
 f301 := Tryz.func178.trans (congrArg some (by kernel_rfl))
 f328 := Tryz.func216.trans (congrArg some (by kernel_rfl))
 f329 := Tryz.func217.trans (congrArg some (by kernel_rfl))
 f330 := Tryz.func218.trans (congrArg some (by kernel_rfl))
 f331 := Tryz.func219.trans (congrArg some (by kernel_rfl))
 f332 := Tryz.func220.trans (congrArg some (by kernel_rfl))
 f343 := Tryz.func249.trans (congrArg some (by kernel_rfl))
 t0 := Tryz.underlying0
 a0 := Tryz.isAgg0
 z0 := Tryz.sizeOf0
 v0 := Tryz.zeroValue0
 t3 := Tryz.underlying3
 a3 := Tryz.isAgg3
 z3 := Tryz.sizeOf3
 v3 := Tryz.zeroValue3
 t4 := Tryz.underlying4
 a4 := Tryz.isAgg4
 z4 := Tryz.sizeOf4
 v4 := Tryz.zeroValue4
 t5 := Tryz.underlying5
 a5 := Tryz.isAgg5
 z5 := Tryz.sizeOf5
 v5 := Tryz.zeroValue5
 t9 := Tryz.underlying9
 a9 := Tryz.isAgg9
 z9 := Tryz.sizeOf9
 v9 := Tryz.zeroValue9
 t28 := Tryz.underlying28
 a28 := Tryz.isAgg28
 z28 := Tryz.sizeOf28
 v28 := Tryz.zeroValue28
 t46 := Tryz.underlying154
 a46 := Tryz.isAgg154
 z46 := Tryz.sizeOf154
 v46 := Tryz.zeroValue154
 t51 := Tryz.underlying208
 a51 := Tryz.isAgg208
 z51 := Tryz.sizeOf208
 v51 := Tryz.zeroValue208
 t53 := Tryz.underlying210
 a53 := Tryz.isAgg210
 z53 := Tryz.sizeOf210
 v53 := Tryz.zeroValue210
 t131 := Tryz.underlying205
 a131 := Tryz.isAgg205
 z131 := Tryz.sizeOf205
 v131 := Tryz.zeroValue205
 t182 := Tryz.underlying200
 a182 := Tryz.isAgg200
 z182 := Tryz.sizeOf200
 v182 := Tryz.zeroValue200
 t183 := Tryz.underlying201
 a183 := Tryz.isAgg201
 z183 := Tryz.sizeOf201
 v183 := Tryz.zeroValue201
 t218 := Tryz.underlying235
 a218 := Tryz.isAgg235
 z218 := Tryz.sizeOf235
 v218 := Tryz.zeroValue235
 t222 := Tryz.underlying239
 a222 := Tryz.isAgg239
 z222 := Tryz.sizeOf239
 v222 := Tryz.zeroValue239
 t228 := Tryz.underlying258
 a228 := Tryz.isAgg258
 z228 := Tryz.sizeOf258
 v228 := Tryz.zeroValue258
 t229 := Tryz.underlying255
 a229 := Tryz.isAgg255
 z229 := Tryz.sizeOf255
 v229 := Tryz.zeroValue255 }
open Go.RowKit Go.Sort Go.Lib in
theorem Tryz.slices_Sort_int (blk off cap : Nat) (zs : List Int) (w : World) (hH : Holds (Value.int .i64) w blk off zs.toArray) (hblk : blk < w.heap.size) (hsz : zs.length < 4611686018427387904) :
  Calls Tryz.prog 67 #[.slice (some ⟨blk, off, none⟩) zs.length cap] w fun e w' =>
   e = .returned (.tuple #[]) ∧ ∃ n os, w' = grow (putRow (Value.int .i64) (Sort.ahead w n) blk off (zs.mergeSort fun x y => decide (x ≤ y)).toArray) os := Any.slices_Sort_int Tryz.lays189 blk off cap zs w hH hblk hsz
end Go.Proofs

namespace Go.Proofs.YtccikcpcfdjobaaGreatDoor
section
open Go.RowKit Go.Shelf
attribute [local go_sem] Oper.semAt_some
structure Yc (B Bf Bc Br : Nat) (v : Fv) (f : Dd.Fd) (x : Dd.Ca) (r : Int) (W : World) : Prop where
 kF : Bk W Bf 27 #[.slice v.a1 f.st.length v.c1, .slice v.a2 f.li.length v.c2, .slice v.a3 f.pa.length v.c3, .slice v.a4 f.va.length v.c4]
 kC : Bk W Bc 48 #[.int .u8 x.k, .int .i64 x.l, .int .i64 x.o, .int .i64 x.a, .int .i64 x.b, .int .i64 x.s, .int .i64 x.e, .int .i64 x.c.b, .int .i64 x.c.n, .int .i64 x.c.l, .int .i64 x.c.y, .int .i64 x.c.w, .int .i64 x.c.s]
 kR : Bk W Br 3 #[.int .i64 r]
 rd : FRd W B v f
 sn : Sn W
theorem Yc.below {B Bf Bc Br C : Nat} {v : Fv} {f : Dd.Fd} {x : Dd.Ca} {r : Int} {W W' : World} (h : Yc B Bf Bc Br v f x r W) (hb : Below C W W') (h1 : Bf < C) (h2 : Bc < C) (h3 : Br < C) (hB : B ≤ C) (hg : 8 < C) : Yc B Bf Bc Br v f x r W' :=
 ⟨h.kF.below hb h1, h.kC.below hb h2, h.kR.below hb h3, h.rd.below hb hB, h.sn.below hb hg⟩
def ibv {f : Dd.Fd} {x : Dd.Ca} {r : Int} (b : Dd.Ib f x r) : Array Value := #[bval b.1]
theorem bounds1_in (n : Nat) (hn : 1 ≤ n) (l Bf Bc Br M B : Nat) (X : Nat → Prop) (v : Fv) (f : Dd.Fd) (x : Dd.Ca) (r : Int) (he : Dd.callE f x = 0)
  (hX : ∀ j, X j → B ≤ j ∧ j < M) (h1 : ¬ X Bf) (h2 : ¬ X Bc) (h3 : ¬ X Br) (hB : B ≤ M) (hg : 8 < B) (h4 : Bf < M) (h5 : Bc < M) (h6 : Br < M) (J Jx : List (Dd.Ib f x r) → World → Prop) (W : World) (hM : M ≤ W.heap.size) (hJ : AbidesFrom W.heap.size J)
  (hY : ∀ pre y W, J pre W → pre.length < (Dd.bnds f x r).length → YieldAt Fence.wide (n - 1) Tryz.prog l (ibv y) W fun e W' =>
   (e = .returned (.bool true) ∧ J (pre ++ [y]) W' ∧ Kc M X W W') ∨ (e = .returned (.bool false) ∧ Jx (pre ++ [y]) W'))
  (hW : Yc B Bf Bc Br v f x r W) (h0 : J [] W) :
  CallsIn Fence.wide n Tryz.prog 108 #[.func (.yield l) #[] #[], .pointer (some ⟨Bf, 0, none⟩), .pointer (some ⟨Bc, 0, none⟩), .pointer (some ⟨Br, 0, none⟩)] W fun e W' => (∃ v, e = .returned v) ∧
   ((∃ ys, ys = (Dd.bnds f x r).attach ∧ J ys W') ∨ (∃ pre, pre <+: (Dd.bnds f x r).attach ∧ Jx pre W')) := by
 have g0 := fun w hF hS => gaps_any v f x w hF hS he
 have f0 := (hW.kF.cell 0).trans rfl
 have f1 := (hW.kF.cell 1).trans rfl
 have f2 := (hW.kF.cell 2).trans rfl
 have f3 := (hW.kF.cell 3).trans rfl
 have c0 := (hW.kC.cell 0).trans rfl
 have c1 := (hW.kC.cell 1).trans rfl
 have c2 := (hW.kC.cell 2).trans rfl
 have c3 := (hW.kC.cell 3).trans rfl
 have c4 := (hW.kC.cell 4).trans rfl
 have c5 := (hW.kC.cell 5).trans rfl
 have c6 := (hW.kC.cell 6).trans rfl
 have c7 := (hW.kC.cell 7).trans rfl
 have c8 := (hW.kC.cell 8).trans rfl
 have c9 := (hW.kC.cell 9).trans rfl
 have c10 := (hW.kC.cell 10).trans rfl
 have c11 := (hW.kC.cell 11).trans rfl
 have c12 := (hW.kC.cell 12).trans rfl
 simp only [fval_def, caval_def] at g0
 have G0 := jQ g0
 have HW := jQ hW
 have HJ := jQ hJ
 have HY := jQ hY
 have HX := jQ hX
 have HE := jQ he
 clear g0 hW hJ hY hX he
 refine callsIn_of_wp Tryz.func108 rfl trivial ?_ rfl
 simp only [Tryz.ntmps108, List.size_toArray, List.length_cons, List.length_nil, Nat.reduceAdd, Nat.reduceSub, Array.replicate_succ, Array.replicate_zero, List.push_toArray, List.append_toArray, List.nil_append, List.cons_append]
 gi_wp2_with (refine ⟨trivial, ?_⟩; gi_at_call 109; refine (callsIn_wide.2 (G0.o _ (HW.o.rd.more (Nat.le_trans hB hM)) HW.o.sn)).mono ?_; rintro e w1 ⟨A, c, rfl, hrd, hb, hfr⟩)
 have hJ1 : J [] w1 := HJ.o _ _ _ none h0 ⟨hb.os, hb.tape, hb.output, hb.size, fun k hk _ => hb.block k hk⟩ (fun r e => by cases e)
 have hK1 : Kc M X W w1 := Kc.of_below hb hM
 have hgl := Dd.gaps_len HE.o
 have hl1 := HW.o.rd.l1
 have hMw := Nat.le_trans hM hb.size
 have hz := hb.size
 have HRD := jQ hrd
 have HFR := jQ hfr
 have HB := jQ hb
 clear f0 f1 f2 f3 c0 c1 c2 c3 c4 c5 c6 c7 c8 c9 c10 c11 c12 hrd hfr hb h0
 gi_loopw [11] (fun i wr => ∃ k : Nat, k ≤ (Dd.gapsF f x).length ∧ i = .int .i64 k ∧ J ((Dd.bnds f x r).attach.take (2 * k)) wr ∧ Kc M X w1 wr) (fun i _ => (Dd.gapsF f x).length - (intOf i).toNat)
 case atStart => exact ⟨0, Nat.zero_le _, rfl, by simpa using hJ1, Kc.refl _ _ _⟩
 case round =>
  obtain ⟨k, hk, rfl, hJs, hK⟩ := hrel
  by_cases hlt : k < (Dd.gapsF f x).length
  ·obtain ⟨b, off, rfl, hbl, e0, e1, e2, e3⟩ := (hK.rd HRD.o HFR.o).gap hlt
   have hlo := Dd.gaps_low HE.o (List.getElem_mem hlt)
   have hbn := Dd.bnds_len f x r
   obtain ⟨⟨p, q, lo, hi⟩, hgg⟩ : ∃ g, (Dd.gapsF f x)[k] = g := ⟨_, rfl⟩
   obtain ⟨m1, m2, t1, t2⟩ := Dd.bnds_of f x r hlt hgg
   simp only [hgg] at e0 e1 e2 e3 hlo
   clear hgg
   have hwz : w1.heap.size ≤ wr.heap.size := hK.kx.size
   have hbw : b < wr.heap.size := Nat.lt_of_lt_of_le hbl hwz
   have kR := (hK1.trans hK).bk HW.o.kR h6 h3
   have r0 := (kR.cell 0).trans rfl
   have hRl : Br < wr.heap.size := kR.lt
   have hJ2 : J ((Dd.bnds f x r).attach.take (2 * k)) (wr.alloc (.cells #[.int .i64 p, .int .i64 q, .int .i64 lo, .int .i64 hi] 143)) := HJ.o _ _ _ none hJs (World.grownBy_alloc wr _ none) (fun r e => by cases e)
   have hK2 := hK.alloc (Nat.le_trans hMw hwz) (.cells #[.int .i64 p, .int .i64 q, .int .i64 lo, .int .i64 hi] 143)
   have kG := Bk.new wr 143 #[.int .i64 p, .int .i64 q, .int .i64 lo, .int .i64 hi]
   obtain ⟨fn, tmps, assign, body, hy, hR⟩ := HY.o _ ⟨_, m1⟩ _ hJ2 (by simp; omega)
   rw [t1] at hR
   dsimp only [ibv, bval] at hy
   have HK2 := jQ hK2
   have KG := jQ kG
   have T2 := jQ t2
   clear hJs hK hJ2 hK2 kG t1 t2 kR
   gi_wp2_with (fail)
   refine hR.mono ?_
   clear hR hy
   rintro e W3 (⟨rfl, hJ3, hk3⟩ | ⟨rfl, hx3⟩)
   ·have hK3 := HK2.o.trans hk3
    have kG3 := hk3.bkG KG.o
    have g0 := (kG3.cell 0).trans rfl
    have g1 := (kG3.cell 1).trans rfl
    have g2 := (kG3.cell 2).trans rfl
    have hGl := kG3.lt
    have r3 := (((hK1.trans hK3).bk HW.o.kR h6 h3).cell 0).trans rfl
    have hRl3 := ((hK1.trans hK3).bk HW.o.kR h6 h3).lt
    have hwn : IntKind.i64.wrap (-lo) = -lo := IntWalk.i64_in _ (by omega)
    obtain ⟨fn2, tmps2, assign2, body2, hy2, hR2⟩ := HY.o _ ⟨_, m2⟩ _ hJ3 (by simp; omega)
    rw [T2.o] at hR2
    dsimp only [ibv, bval] at hy2
    have HK3 := jQ hK3
    clear hJ3 hk3 hK3 kG3
    gi_wp2_with (fail)
    refine hR2.mono ?_
    clear hR2 hy2
    rintro e W4 (⟨rfl, hJ4, hk4⟩ | ⟨rfl, hx4⟩)
    ·have HK4 := jQ (HK3.o.trans hk4)
     have HJ4 := jQ hJ4
     clear hk4 hJ4
     gi_wp2_with (fail)
     go_roundw
     case rel => exact ⟨k + 1, by omega, by simp, HJ4.o, HK4.o⟩
     case measure => simp [intOf]; omega
    ·have HX4 := jQ hx4
     clear hx4
     gi_wp2_with (fail)
     refine bodyPost_ret (results_none rfl _ _ _) rfl ?_
     exact ⟨⟨_, rfl⟩, .inr ⟨_, List.take_prefix _ _, HX4.o⟩⟩
   ·have HX3 := jQ hx3
    clear hx3
    gi_wp2_with (fail)
    refine ⟨fun _ h => (by cases h), ?_⟩
    gi_wp2_with (fail)
    refine bodyPost_ret (results_none rfl _ _ _) rfl ?_
    exact ⟨⟨_, rfl⟩, .inr ⟨_, List.take_prefix _ _, HX3.o⟩⟩
  ·obtain rfl : k = (Dd.gapsF f x).length := by omega
   have hbn := Dd.bnds_len f x r
   have HJ5 := jQ hJs
   have HBN := jQ hbn
   clear hJs hbn
   gi_wp2_with (fail)
   go_end0
   exact ⟨⟨_, rfl⟩, .inl ⟨_, by rw [List.take_of_length_le (by simp [HBN.o])], HJ5.o⟩⟩
theorem bounds_stops (n : Nat) (hn : 1 ≤ n) (Bf Bc Br M B : Nat) (X : Nat → Prop) (v : Fv) (f : Dd.Fd) (x : Dd.Ca) (r : Int) (he : Dd.callE f x = 0)
  (hX : ∀ j, X j → B ≤ j ∧ j < M) (h1 : ¬ X Bf) (h2 : ¬ X Bc) (h3 : ¬ X Br) (hB : B ≤ M) (hg : 8 < B) (h4 : Bf < M) (h5 : Bc < M) (h6 : Br < M) (w : World) (hM : M ≤ w.heap.size) (hW : Yc B Bf Bc Br v f x r w) :
  SeqStopsK Fence.wide n Tryz.prog 108 #[.pointer (some ⟨Bf, 0, none⟩), .pointer (some ⟨Bc, 0, none⟩), .pointer (some ⟨Br, 0, none⟩)] (fun b : Dd.Ib f x r => ibv b) (Kc M X) (fun ys => ys = (Dd.bnds f x r).attach) (fun pre => pre <+: (Dd.bnds f x r).attach) (Dd.bnds f x r).length w :=
 fun l J Jx W hb hJ _ hY h0 => bounds1_in n hn l Bf Bc Br M B X v f x r he hX h1 h2 h3 hB hg h4 h5 h6 J Jx W (Nat.le_trans hM hb.size) hJ hY (hW.below hb (by omega) (by omega) (by omega) (by omega) (by omega)) h0
end

section
open Go.RowKit Go.Shelf
attribute [local go_sem] Oper.semAt_some
def ApI (w : World) (pre : List Dd.Bd) (W : World) : Prop :=
 ∃ V, Bk W w.heap.size 52 #[V] ∧ W.ownsRow (w.heap.size + 1) 78 4 V pre.length (bcells pre) ∧ Below w.heap.size w W
theorem apI_own {w : World} {f : Dd.Fd} {x : Dd.Ca} {r : Int} {B : Nat} (hB : w.heap.size ≤ B) : OwnFrom B (fun (pre : List (Dd.Ib f x r)) W => ApI w (pre.map (·.1)) W) := by
 rintro pre W W' row ⟨v, h2, h3, h4⟩ hg hr
 exact ⟨v, bk_own h2 hg (fun r e => (hr r e).2), own_cells h3 hg (fun r e => (hr r e).2), below_own h4 hB hg (fun r e => (hr r e).1) h4.size⟩
theorem apI_step {w W w1 : World} {V V' : Value} {pre : List Dd.Bd} {b : Dd.Bd} (i2 : Bk W w.heap.size 52 #[V]) (i3 : W.ownsRow (w.heap.size + 1) 78 4 V pre.length (bcells pre)) (i4 : Below w.heap.size w W)
  (hown : w1.ownsRow (w.heap.size + 1) 78 4 V' (pre.length + 1) (bcells pre ++ bcell b)) (hg : (W.alloc (.cells (bcell b).toArray 78)).grownBy w1 V.ownBlock) :
  w1.cell? ⟨w.heap.size, 0, none⟩ = some V ∧ w1.frozen? ⟨w.heap.size, 0, none⟩ = false ∧ w.heap.size < w1.heap.size ∧
  jP (KeepsFrom (w.heap.size + 1) W (w1.setCell ⟨w.heap.size, 0, none⟩ V') ∧ Kc (w.heap.size + 1) (fun j => j = w.heap.size) W (w1.setCell ⟨w.heap.size, 0, none⟩ V') ∧ ApI w (pre ++ [b]) (w1.setCell ⟨w.heap.size, 0, none⟩ V')) := by
 have n2 : some w.heap.size ≠ V.ownBlock := fun e => by have := (i3.lt _ e.symm).1; omega
 have j2 := i2.alloc (.cells (bcell b).toArray 78)
 have j3 := i3.alloc (.cells (bcell b).toArray 78)
 have a2 := j2.grown hg n2
 have hl := i2.lt
 refine ⟨(a2.cell 0).trans rfl, a2.frozen 0, a2.lt, Lib.hid ⟨?_, ?_, V', a2.set 0 _, ?_, ?_⟩⟩
 ·exact (((KeepsOthers.alloc W (.cells (bcell b).toArray 78)).from _).trans (kf_own j3 hg _)).trans (kf_grown (grown_setCell w1 ⟨w.heap.size, 0, none⟩ V') (fun k e => by cases e; exact ⟨_, _, _, a2⟩) _)
 ·exact (((Kc.refl (w.heap.size + 1) (fun j => j = w.heap.size) W).alloc (by omega) _).trans (Kc.own j3 hg (by rw [World.size_alloc]; omega) (Nat.le_refl _) (by decide))).setBk a2 (by decide) (fun _ => rfl) 0 V'
 ·rw [List.length_append, show bcells (pre ++ [b]) = bcells pre ++ bcell b by simp [bcells]]
  exact own_set hown (Nat.lt_succ_self _) V'
 ·exact ((i4.alloc i4.size _).grown hg (by rw [World.size_alloc]; have := i4.size; omega) (fun k hk => by have := (j3.lt k hk).1; omega)).setCell (Nat.le_refl _) _
theorem appendSeq_any (Bf Bc Br B : Nat) (v : Fv) (f : Dd.Fd) (x : Dd.Ca) (r : Int) (he : Dd.callE f x = 0) (w : World) (hY : Yc B Bf Bc Br v f x r w) (hB : B ≤ w.heap.size) (hg : 8 < B) :
  Calls Tryz.prog 111 #[.slice none 0 0, .func (.func 108) #[] #[.pointer (some ⟨Bf, 0, none⟩), .pointer (some ⟨Bc, 0, none⟩), .pointer (some ⟨Br, 0, none⟩)]] w fun e w' =>
   ∃ A c, e = .returned (.slice A (Dd.bnds f x r).length c) ∧ Rd w' w'.heap.size 4 A (Dd.bnds f x r).length (bcells (Dd.bnds f x r)) ∧ (Dd.bnds f x r).length ≤ c ∧ Below w.heap.size w w' := by
 obtain ⟨i0, hi0, hy0, hy1, hy2⟩ := info_parts infoB
 have hlF := hY.kF.lt
 have hlC := hY.kC.lt
 have hlR := hY.kR.lt
 have hlen := Dd.bnds_len f x r
 have hgl := Dd.gaps_len he
 have hl1 := hY.rd.l1
 have hB0 := (Below.refl w.heap.size w).alloc (Nat.le_refl _) (.cells #[.slice none 0 0] 52)
 have k0 := Bk.new w 52 #[.slice none 0 0]
 have e0 : (w.alloc (.cells #[.slice none 0 0] 52)).heap.size = w.heap.size + 1 := World.size_alloc _ _
 have y0 := hY.below hB0 hlF hlC hlR hB (by omega)
 have hst := fun W (hM : w.heap.size + 1 ≤ W.heap.size) h => bounds_stops 2 (by omega) Bf Bc Br (w.heap.size + 1) B (fun j => j = w.heap.size) v f x r he (fun j hj => by omega) (by omega) (by omega) (by omega) (by omega) hg (by omega) (by omega) (by omega) W hM h
 have HST := jQ hst
 have HLEN := jQ hlen
 clear hst hlen hY
 refine (callsIn_wide (n := 3)).1 ?_
 refine callsIn_of_wp_marks Tryz.func111 rfl trivial ?_ rfl
 simp only [Tryz.ntmps111, List.size_toArray, List.length_cons, List.length_nil, Nat.reduceAdd, Nat.reduceSub, Array.replicate_succ, Array.replicate_zero, List.push_toArray, List.append_toArray, List.nil_append, List.cons_append]
 gi_wp2_with (fail)
 obtain ⟨W0, hW0⟩ : ∃ W0, (w.alloc (.cells #[.slice none 0 0] 52)) = W0 := ⟨_, rfl⟩
 rw [hW0] at k0 hB0 e0 y0 ⊢
 clear hW0
 have hz0 : W0.heap.size ≤ w.heap.size + 1 := by omega
 have hz1 : w.heap.size + 1 ≤ W0.heap.size := by omega
 have e1 : w.heap.size + 1 = W0.heap.size := e0.symm
 have E1 := jQ e1
 clear e0 e1
 refine wpIn_rangeFunc_ownH (F := Fence.wide) (n := 3) rfl (by omega) (gf := 108) (lb := #[.pointer (some ⟨Bf, 0, none⟩), .pointer (some ⟨Bc, 0, none⟩), .pointer (some ⟨Br, 0, none⟩)]) rfl trivial (enters_of Tryz.func108 (by kernel_rfl) rfl)
  (HST.o W0 hz1 y0) kc_t (kc_b hz1) (Below.refl _ _) (fun _ => rfl)
  (fun pre W' => ApI w (pre.map (·.1)) W')
  (fun _ _ _ => False)
  (apI_own (by omega))
  (fun _ _ _ _ _ h _ _ => h)
  ⟨.slice none 0 0, k0, World.ownsRow_nil _ _ _ _, hB0⟩
  (fun b a' W' => ∃ Bx, w.heap.size + 1 ≤ Bx ∧ Bk W' Bx 78 #[.int .i64 b.1.f, .int .i64 b.1.t, .int .i64 b.1.m, .int .i64 b.1.r] ∧ (∃ V, Bk W' w.heap.size 52 #[V] ∧ V.ownBlock ≠ some Bx) ∧ a' = { tmps := #[.slice none 0 0, .func (.func 108) #[] #[.pointer (some ⟨Bf, 0, none⟩), .pointer (some ⟨Bc, 0, none⟩), .pointer (some ⟨Br, 0, none⟩)], .pointer (some ⟨w.heap.size, 0, none⟩), undef, .slice none 0 0, .pointer (some ⟨Bx, 0, none⟩), .func (.func 108) #[] #[.pointer (some ⟨Bf, 0, none⟩), .pointer (some ⟨Bc, 0, none⟩), .pointer (some ⟨Br, 0, none⟩)], .agg #[.int .i64 b.1.f, .int .i64 b.1.t, .int .i64 b.1.m, .int .i64 b.1.r], undef, undef, undef, undef, undef], defers := [] })
  (fun b a' _ X Y row hs hg hr => by obtain ⟨Bx, h1, h2, ⟨V, h3, h4⟩, h5⟩ := hs; exact ⟨Bx, h1, bk_own h2 hg (fun r e => (hr r e).2), ⟨V, bk_own h3 hg (fun r e => (hr r e).2), h4⟩, h5⟩)
  ?assign ?body ?done ?stop
 case assign =>
  rintro l pre b W' KK i1 hKK
  rw [show ibv b = #[.agg #[.int .i64 b.1.f, .int .i64 b.1.t, .int .i64 b.1.m, .int .i64 b.1.r]] from rfl]
  have I1 := jQ i1
  have HKK := jQ hKK
  clear i1 hKK
  gi_wp2_with (fail)
  obtain ⟨V, q2, q3, q4⟩ := I1.o
  have hl := q2.lt
  refine HKK.o _ _ ((KeepsOthers.alloc _ _).from _) ((Kc.refl _ _ _).alloc (by omega) _) ⟨V, q2.alloc _, q3.alloc _, q4.alloc q4.size _⟩ ⟨W'.heap.size, by omega, Bk.new W' _ _, ⟨V, q2.alloc _, fun e => by have := (q3.lt _ e).2; omega⟩, rfl⟩
 case body =>
  rintro l' pre b a' W' hl' ⟨rr, hr⟩ ⟨V, i2, i3, i4⟩ ⟨Bx, hBx, bX, ⟨V', j2, j3⟩, rfl⟩ hltp
  rw [List.length_map] at i3
  obtain ⟨⟨bf, bt, bm, br⟩, hb⟩ := b
  dsimp only at bX
  have x0 := (bX.cell 0).trans rfl
  have x1 := (bX.cell 1).trans rfl
  have x2 := (bX.cell 2).trans rfl
  have x3 := (bX.cell 3).trans rfl
  have cw := (i2.cell 0).trans rfl
  have lX := bX.lt
  have l2 := i2.lt
  have hpn := fun w1 v' h1 h2 => apI_step (b := ⟨bf, bt, bm, br⟩) i2 (by rw [List.length_map]; exact i3) i4 (w1 := w1) (V' := v') h1 h2
  have hmap : (pre ++ [(⟨⟨bf, bt, bm, br⟩, hb⟩ : Dd.Ib f x r)]).map (·.1) = pre.map (·.1) ++ [⟨bf, bt, bm, br⟩] := by simp
  have hcl : (pre.map (·.1)).length + 1 = pre.length + 1 := by simp
  rw [hcl] at hpn
  have HM := jQ hmap
  have hOn := i3.alloc (.cells #[.int .i64 bf, .int .i64 bt, .int .i64 bm, .int .i64 br] 78)
  have hb47 : pre.length + 1 ≤ 10000000 := by have := HLEN.o; omega
  have HPN := jQ hpn
  have HON := jQ hOn
  clear i2 i3 i4 bX j2 j3 hpn hcl hmap hOn hltp
  gi_wp2_with (first
   | (refine wpListIn_append_own_at _ rfl _ _ 52 rfl (w.heap.size + 1) 78 i0 _ 4 32 Tryz.underlying52 hi0 hy0 hy1 hy2 rfl (by omega) V _ _ rfl HON.o ⟨W'.heap.size, 0, none⟩ 1 1 [.int .i64 bf, .int .i64 bt, .int .i64 bm, .int .i64 br] rfl rfl (World.news_of_block (cs := #[.int .i64 bf, .int .i64 bt, .int .i64 bm, .int .i64 br]) (t := 78) (fr := (0, 0)) (World.alloc_heap_new W' _)) (by simp [Value.oneCell']) (by unfold maxLen; omega) (by omega) (by rw [World.size_alloc]; omega) ?_; intro v' w1 hown hgrow hnil hat; obtain ⟨A3, c3, hv3, _, _⟩ := ownB_rd hown (by simp [bcells, flatl_len bcell_len]; omega); subst hv3; obtain ⟨q1, q2, q3, QQ⟩ := HPN.o w1 _ hown hgrow))
  obtain ⟨k1, k2, k3⟩ := QQ.o
  refine ⟨E1.o ▸ k1, k2, ?_⟩
  show ApI w (List.map (·.1) (pre ++ [_])) _
  rw [List.map_append]
  exact k3
 case done =>
  rintro D ys W' hD rfl ⟨V, i2, i3, i4⟩ hKD
  rw [List.length_map, List.length_attach, List.attach_map_subtype_val] at i3
  obtain ⟨A3, c3, rfl, hrd, _⟩ := ownB_rd i3 (by simp [bcells, flatl_len bcell_len])
  have hc3 : (Dd.bnds f x r).length ≤ c3 := by
   rcases i3.2 with ⟨h, h0⟩ | ⟨g, cap, cur, h, _, _, hn, _⟩
   ·omega
   ·cases h; exact hn
  have cw := (i2.cell 0).trans rfl
  have l2 := i2.lt
  have HRD := jQ hrd
  have HB4 := jQ i4
  have HKD := jQ hKD
  have HC3 := jQ hc3
  clear i2 i3 i4 hrd hKD hc3
  gi_wp2_with (fail)
  refine leaves_one HKD.o (fun w' hw => ?_)
  refine ⟨_, results_tmp rfl _ _ _, A3, c3, rfl, (hw.rdD HKD.o HRD.o (Nat.le_refl _)).more hw.size, HC3.o, ?_⟩
  exact HB4.o.trans (hw.below HB4.o.size (fun j hj e => by omega))
 case stop =>
  rintro D c pre W' hD hpre h hK
  exact h.elim
theorem collect_any (Bf Bc Br B : Nat) (v : Fv) (f : Dd.Fd) (x : Dd.Ca) (r : Int) (he : Dd.callE f x = 0) (w : World) (hY : Yc B Bf Bc Br v f x r w) (hB : B ≤ w.heap.size) (hg : 8 < B) :
  Calls Tryz.prog 61 #[.func (.func 108) #[] #[.pointer (some ⟨Bf, 0, none⟩), .pointer (some ⟨Bc, 0, none⟩), .pointer (some ⟨Br, 0, none⟩)]] w fun e w' =>
   ∃ A c, e = .returned (.slice A (Dd.bnds f x r).length c) ∧ Rd w' w'.heap.size 4 A (Dd.bnds f x r).length (bcells (Dd.bnds f x r)) ∧ (Dd.bnds f x r).length ≤ c ∧ Below w.heap.size w w' := by
 have H := jQ (appendSeq_any Bf Bc Br B v f x r he w hY hB hg)
 clear he hY hB hg
 go_enter Tryz.func61, Tryz.ntmps61
 go_wp2_with fail
 refine H.o.mono ?_
 rintro e w1 ⟨A, c, rfl, hrd, hc, hb⟩
 have HR := jQ hrd
 have HB := jQ hb
 have HC := jQ hc
 clear hrd hb hc H
 go_wp2_with fail
 go_ret
 exact ⟨A, c, rfl, HR.o, HC.o, HB.o⟩
end

section
open Go.RowKit Go.Shelf Go.Sort
theorem sort_own {A : Option Addr} {n c base : Nat} {l : List Int} {w : World} (h : w.ownsRow base 3 1 (.slice A n c) n (icells l)) (hn : l.length = n) (hne : l ≠ []) (hl : l.length ≤ 1000000) :
  Calls Tryz.prog 67 #[.slice A n c] w fun e w' => e = .returned (.tuple #[]) ∧ Rd w' w'.heap.size 1 A n (icells (l.mergeSort fun x y => decide (x ≤ y))) ∧ w.grownBy w' (Value.slice A n c).ownBlock := by
 subst hn
 have hpos : 0 < l.length := List.length_pos_iff.2 hne
 rcases h.2 with ⟨h1, h0⟩ | ⟨g, cap, cur, h1, hg1, hg2, hcap, _⟩
 ·omega
 ·cases h1
  have hgl : g < w.heap.size := (Array.getElem?_eq_some_iff.1 hg2).1
  have hH : Holds (Value.int .i64) w g 0 l.toArray := fun j hj => by
   have hj' : j < l.length := by simpa using hj
   refine ⟨?_, by rw [Nat.zero_add]; exact h.frozenAt j⟩
   rw [Nat.zero_add, h.cellAt j (by omega)]
   simp [icells, hj']
  have hsl : (l.mergeSort fun x y => decide (x ≤ y)).length = l.length := List.length_mergeSort _
  refine (Tryz.slices_Sort_int g 0 c l w hH hgl (by omega)).mono ?_
  rintro e w' ⟨rfl, n, os, rfl⟩
  have hH2 : Holds (Value.int .i64) (grow (putRow (Value.int .i64) (Sort.ahead w n) g 0 (l.mergeSort fun x y => decide (x ≤ y)).toArray) os) g 0 (l.mergeSort fun x y => decide (x ≤ y)).toArray :=
   holds_grow _ _ _ _ _ _ (by rw [size_putRow]; exact hgl) (holds_putRow _ _ _ _ _ _ (holds_ahead _ _ n _ _ _ hH) (by simp))
  refine ⟨rfl, ⟨by rw [icells_length, hsl], fun _ => ⟨g, 0, rfl, ?_, fun j hj => ?_⟩⟩, rfl, rfl, rfl, ?_, fun k hk hne => ?_⟩
  ·rw [size_grow, size_putRow]
   exact Nat.lt_of_lt_of_le hgl (Nat.le_add_right _ _)
  ·have hj' : j < (l.mergeSort fun x y => decide (x ≤ y)).length := by omega
   rw [(hH2 j (by simp; omega)).1]
   obtain ⟨z, hz⟩ : ∃ z, (l.mergeSort fun x y => decide (x ≤ y)) = z := ⟨_, rfl⟩
   rw [hz] at hj' ⊢
   simp [icells, hj']
  ·rw [size_grow, size_putRow]
   exact Nat.le_add_right _ _
  ·rw [heap_grow_old _ _ (by rw [size_putRow]; exact hk)]
   simp only [putRow, mapBlock, Array.getElem?_modify]
   rw [if_neg (fun e => hne (by rw [← e]; rfl))]
   rfl
theorem Dd.ends_snoc (l : List Dd.Bd) (b : Dd.Bd) : Dd.ends (l ++ [b]) = Dd.ends l ++ (if b.t = 0 then [] else [b.t]) := by
 unfold Dd.ends
 rw [List.map_append, List.filter_append]
 by_cases h : b.t = 0
 ·rw [if_pos h]; simp [h]
 ·rw [if_neg h]; simp [h]
theorem Dd.ends_len (l : List Dd.Bd) : (Dd.ends l).length ≤ l.length := by
 unfold Dd.ends
 exact Nat.le_trans (List.length_filter_le _ _) (by simp)
theorem Dd.ends_ne {f : Dd.Fd} {x : Dd.Ca} (h : Dd.callG f x = 0) : Dd.ends (Dd.bnds f x 0) ≠ [] := by
 obtain ⟨h1, h2, h3, h4⟩ := Dd.callG_zero h
 simp only [Dd.there, Bool.and_eq_true] at h1
 have key : ∀ (g : Int × Int × Int × Int) (r : List (Int × Int × Int × Int)) , Dd.gapsF f x = g :: r → 1 ≤ g.2.1 → Dd.ends (Dd.bnds f x 0) ≠ [] := fun g r hg hq hn => by
  have hm : (⟨g.1, g.2.1, g.2.2.2, 0⟩ : Dd.Bd) ∈ Dd.bnds f x 0 := by
   unfold Dd.bnds
   rw [hg, List.flatMap_cons]
   exact List.mem_append_left _ (List.mem_cons_self)
  have : g.2.1 ∈ Dd.ends (Dd.bnds f x 0) := by
   unfold Dd.ends
   rw [List.mem_filter]
   exact ⟨List.mem_map.2 ⟨_, hm, rfl⟩, by simp; omega⟩
  rw [hn] at this
  cases this
 have p1 := (Dd.pt_range h1.1.1.1.1.1 h1.1.1.1.2).1
 have p2 := (Dd.pt_range h1.1.1.1.1.2 h1.1.1.1.2).1
 have p3 := (Dd.pt_range h1.1.1.1.1.1 h1.1.1.2).1
 rcases Dd.kind_of h2 with k | k | k | k | k
 ·exact key _ [] (by unfold Dd.gapsF; rw [if_pos k]) p1
 ·exact key _ [] (by unfold Dd.gapsF; rw [if_neg (by omega), if_pos k]) p2
 ·exact key _ [] (by unfold Dd.gapsF; rw [if_neg (by omega), if_neg (by omega), if_pos k]) p3
 ·have ho := h2
  unfold Dd.ordered at ho
  rw [if_neg (by omega), if_neg (by omega), if_neg (by omega), if_pos k] at ho
  simp only [Bool.and_eq_true, decide_eq_true_eq] at ho
  refine key (Dd.pt f x.l x.a, Dd.pt f x.o x.a, 0, 0) (Dd.gapAlong f x (x.b - x.a).toNat (x.a + 1)) ?_ p2
  unfold Dd.gapsF
  rw [if_neg (by omega), if_neg (by omega), if_neg (by omega), if_neg (by omega), show (x.b - x.a + 1).toNat = (x.b - x.a).toNat + 1 by omega]
  rfl
 ·exact key _ [] (by unfold Dd.gapsF; rw [if_neg (by omega), if_neg (by omega), if_neg (by omega), if_pos k]) p3
def CoI (w : World) (gl M : Nat) (pre : List Dd.Bd) (W : World) : Prop :=
 ∃ V, Bk W gl 28 #[V] ∧ W.ownsRow M 3 1 V (Dd.ends pre).length (icells (Dd.ends pre)) ∧ Below w.heap.size w W ∧ M ≤ W.heap.size
theorem coI_own {w : World} {f : Dd.Fd} {x : Dd.Ca} {r : Int} {B gl M : Nat} (hB : w.heap.size ≤ B) : OwnFrom B (fun (pre : List (Dd.Ib f x r)) W => CoI w gl M (pre.map (·.1)) W) := by
 rintro pre W W' row ⟨v, h2, h3, h4, h5⟩ hg hr
 exact ⟨v, bk_own h2 hg (fun r e => (hr r e).2), own_cells h3 hg (fun r e => (hr r e).2), below_own h4 hB hg (fun r e => (hr r e).1) h4.size, Nat.le_trans h5 hg.size⟩
theorem coI_step {w W w1 : World} {gl M : Nat} {V V' : Value} {pre : List Dd.Bd} {b : Dd.Bd} (hb0 : b.t ≠ 0) (hgM : gl < M) (hwg : w.heap.size ≤ gl) (hMW : M ≤ W.heap.size) (i2 : Bk W gl 28 #[V]) (i3 : W.ownsRow M 3 1 V (Dd.ends pre).length (icells (Dd.ends pre))) (i4 : Below w.heap.size w W)
  (hown : w1.ownsRow M 3 1 V' ((Dd.ends pre).length + 1) (icells (Dd.ends pre) ++ [.int .i64 b.t])) (hg : (W.alloc (.cells #[.int .i64 b.t] 3)).grownBy w1 V.ownBlock) :
  w1.cell? ⟨gl, 0, none⟩ = some V ∧ w1.frozen? ⟨gl, 0, none⟩ = false ∧ gl < w1.heap.size ∧
  jP (KeepsFrom M W (w1.setCell ⟨gl, 0, none⟩ V') ∧ Kc M (fun j => j = gl) W (w1.setCell ⟨gl, 0, none⟩ V') ∧ CoI w gl M (pre ++ [b]) (w1.setCell ⟨gl, 0, none⟩ V')) := by
 have n2 : some gl ≠ V.ownBlock := fun e => by have := (i3.lt _ e.symm).1; omega
 have j2 := i2.alloc (.cells #[.int .i64 b.t] 3)
 have j3 := i3.alloc (.cells #[.int .i64 b.t] 3)
 have a2 := j2.grown hg n2
 have hl := i2.lt
 refine ⟨(a2.cell 0).trans rfl, a2.frozen 0, a2.lt, Lib.hid ⟨?_, ?_, V', a2.set 0 _, ?_, ?_, ?_⟩⟩
 ·exact (((KeepsOthers.alloc W (.cells #[.int .i64 b.t] 3)).from _).trans (kf_own j3 hg _)).trans (kf_grown (grown_setCell w1 ⟨gl, 0, none⟩ V') (fun k e => by cases e; exact ⟨_, _, _, a2⟩) _)
 ·exact (((Kc.refl M (fun j => j = gl) W).alloc hMW _).trans (Kc.own j3 hg (by rw [World.size_alloc]; omega) (Nat.le_refl _) (by decide))).setBk a2 (by decide) (fun _ => rfl) 0 V'
 ·rw [Dd.ends_snoc, if_neg hb0, List.length_append, icells_append]
  exact own_set hown hgM V'
 ·exact ((i4.alloc i4.size _).grown hg (by rw [World.size_alloc]; have := i4.size; omega) (fun k hk => by have := (j3.lt k hk).1; omega)).setCell hwg _
 ·have h9 := hg.size
  rw [World.size_alloc] at h9
  rw [size_setCell]
  omega
structure Cw (w : World) (v : Fv) (f : Dd.Fd) (x : Dd.Ca) (gl : Nat) (W : World) : Prop where
 ck : Ck w v f x W
 kL : Bk W gl 28 #[.slice none 0 0]
 hgl : w.heap.size + 1 < gl
theorem Cw.next {w W W' : World} {v : Fv} {f : Dd.Fd} {x : Dd.Ca} {gl : Nat} (h : Cw w v f x gl W) (hb : Below W.heap.size W W') : Cw w v f x gl W' := ⟨h.ck.next hb, h.kL.below hb h.kL.lt, h.hgl⟩
end
end Go.Proofs.YtccikcpcfdjobaaGreatDoor
