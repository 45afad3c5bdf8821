/-
  What the claim needs: contracts.
-/
import Derived.Shelf.Strings.Builder1
import Derived.Shelf.Strings.Builder2
import Derived.Shelf.Strings.OnBuilder
import Derived.Shelf.Small.Bits
import Derived.Shelf.Strings.BuilderF
import Derived.Shelf.Strings.BuilderK
import Derived.Shelf.Utf8.RuneCount
import Derived.Shelf.Strings.Builder2Cap
import Derived.Shelf.Strconv.Atoi
import Derived.Shelf.Strconv.Itoa0
import Derived.Shelf.Strconv.Itoa1
import Derived.Shelf.LaysM
import Derived.Shelf.Strconv.Itoa2
import Derived.Shelf.Strconv.Itoa3
import Derived.Shelf.Strconv.AtoiErrFast
import Derived.Shelf.Strconv.ParseIntEmpty
import Derived.Shelf.Strconv.AtoiFail
import Derived.Shelf.Strconv.Clone
import Derived.Shelf.Strconv.SyntaxError
import Derived.Shelf.LaysC
import Derived.Shelf.Strconv.ToError
import Derived.Shelf.Strconv.Lower
import Derived.Shelf.Strconv.ParseUint10
import Derived.Shelf.Strconv.ParseUint10Empty
import Derived.Shelf.Strconv.ParseUint10Any
import Derived.Shelf.Strconv.ParseInt10
import Derived.Shelf.Strconv.AtoiLong
import Derived.Shelf.Strconv.AtoiInnerAll
import Derived.Shelf.Strconv.RangeError
import Derived.Shelf.Strconv.ToErrorRange
import Derived.Shelf.Strconv.AtoiAll
import Derived.Shelf.Strconv.ErrVarAll
import Derived.Shelf.Strings.Search1
import Derived.Shelf.Strings.Search2
import Derived.Shelf.Strings.Search3
import Derived.Shelf.Strings.Cut
import Derived.Shelf.Strings.Count
import Derived.Shelf.Strings.Shaped
import Derived.Shelf.Sort.Plain
import Derived.Shelf.Strings.Split
import Derived.Shelf.Strings.SplitShaped
import Derived.Shelf.Unicode.Decode
import Derived.Shelf.Strings.RuneCount
import Derived.Shelf.Strings.Explode
import Derived.Shelf.Unicode.DecodeSlow
import Derived.Shelf.Unicode.DecodeAny
import Derived.Shelf.Strings.FieldsFuncAny
import Derived.Shelf.Strings.BuilderCap
import Derived.Shelf.Slices.Turned
import Derived.Ground.Names2Prog
import Derived.Shelf.Slices.SearchI
import Derived.Shelf.Slices.In.SortNone
import Derived.Ground.SlgfProg
import Derived.Shelf.SlicesE.IndexFunc
import Derived.Lib.LaidTab
import Derived.RangeFuncKeeps
import Derived.Test.YtccikcpcfdjobaaGreatDoorBs03
import Derived.Test.YtccikcpcfdjobaaGreatDoorBs01
set_option linter.unusedVariables false
set_option linter.unusedSimpArgs false
set_option maxHeartbeats 8000000
set_option maxRecDepth 100000
namespace Go.Proofs
open Go.Shelf
def Tryz.laysM171_ren : Go.Shelf.Ren := ⟨fun | 171 => 91 | 243 => 140 | 246 => 191 | 283 => 224 | 284 => 225 | 285 => 226 | 286 => 227 | 129 => 180 | 317 => 253 | 318 => 254 | 319 => 255 | 320 => 256 | 337 => 271 | 338 => 272 | n => n, fun | 3 => 3 | 9 => 9 | 2 => 2 | 4 => 4 | 171 => 243 | 0 => 0 | 53 => 210 | 37 => 169 | 5 => 5 | 173 => 245 | 212 => 264 | 51 => 208 | 20 => 20 | 213 => 265 | 46 => 154 | 232 => 289 | 233 => 290 | n => n, fun | 17 => 1 | 18 => 2 | 19 => 3 | n => n⟩
theorem Tryz.laysM171 : Go.Proofs.LaysM.n171 Tryz.prog Tryz.laysM171_ren := {
 mixed := by kernel_rfl
 f129 := Tryz.func180.trans (congrArg some (by kernel_rfl))
 f171 := Tryz.func91.trans (congrArg some (by kernel_rfl))
 f243 := Tryz.func140.trans (congrArg some (by kernel_rfl))
 f246 := Tryz.func191.trans (congrArg some (by kernel_rfl))
 f283 := Tryz.func224.trans (congrArg some (by kernel_rfl))
 f284 := Tryz.func225.trans (congrArg some (by kernel_rfl))
 f285 := Tryz.func226.trans (congrArg some (by kernel_rfl))
 f286 := Tryz.func227.trans (congrArg some (by kernel_rfl))
 f317 := Tryz.func253.trans (congrArg some (by kernel_rfl))
 f318 := Tryz.func254.trans (congrArg some (by kernel_rfl))
 f319 := Tryz.func255.trans (congrArg some (by kernel_rfl))
 f320 := Tryz.func256.trans (congrArg some (by kernel_rfl))
 f337 := Tryz.func271.trans (congrArg some (by kernel_rfl))
 f338 := Tryz.func272.trans (congrArg some (by kernel_rfl))
 t0 := Tryz.underlying0
 a0 := Tryz.isAgg0
 z0 := Tryz.sizeOf0
 v0 := Tryz.zeroValue0
 t2 := Tryz.underlying2
 a2 := Tryz.isAgg2
 z2 := Tryz.sizeOf2
 v2 := Tryz.zeroValue2
 t3 := Tryz.underlying3
 a3 := Tryz.isAgg3
 z3 := Tryz.sizeOf3
 v3 := Tryz.zeroValue3
 t4 := Tryz.underlying4
 a4 := Tryz.isAgg4
 z4 := Tryz.sizeOf4
 v4 := Tryz.zeroValue4
 t5 := Tryz.underlying5
 a5 := Tryz.isAgg5
 z5 := Tryz.sizeOf5
 v5 := Tryz.zeroValue5
 t9 := Tryz.underlying9
 a9 := Tryz.isAgg9
 z9 := Tryz.sizeOf9
 v9 := Tryz.zeroValue9
 t20 := Tryz.underlying20
 a20 := Tryz.isAgg20
 z20 := Tryz.sizeOf20
 v20 := Tryz.zeroValue20
 t37 := Tryz.underlying169
 a37 := Tryz.isAgg169
 z37 := Tryz.sizeOf169
 v37 := Tryz.zeroValue169
 t46 := Tryz.underlying154
 a46 := Tryz.isAgg154
 z46 := Tryz.sizeOf154
 v46 := Tryz.zeroValue154
 t51 := Tryz.underlying208
 a51 := Tryz.isAgg208
 z51 := Tryz.sizeOf208
 v51 := Tryz.zeroValue208
 t53 := Tryz.underlying210
 a53 := Tryz.isAgg210
 z53 := Tryz.sizeOf210
 v53 := Tryz.zeroValue210
 t171 := Tryz.underlying243
 a171 := Tryz.isAgg243
 z171 := Tryz.sizeOf243
 v171 := Tryz.zeroValue243
 t173 := Tryz.underlying245
 a173 := Tryz.isAgg245
 z173 := Tryz.sizeOf245
 v173 := Tryz.zeroValue245
 t212 := Tryz.underlying264
 a212 := Tryz.isAgg264
 z212 := Tryz.sizeOf264
 v212 := Tryz.zeroValue264
 t213 := Tryz.underlying265
 a213 := Tryz.isAgg265
 z213 := Tryz.sizeOf265
 t232 := Tryz.underlying289
 a232 := Tryz.isAgg289
 z232 := Tryz.sizeOf289
 v232 := Tryz.zeroValue289
 t233 := Tryz.underlying290
 a233 := Tryz.isAgg290
 z233 := Tryz.sizeOf290
 v233 := Tryz.zeroValue290
 g17 := by kernel_rfl
 g18 := by kernel_rfl
 g19 := by kernel_rfl
 i0 := by kernel_rfl
 i2 := by kernel_rfl
 i3 := by kernel_rfl
 i4 := by kernel_rfl
 i5 := by kernel_rfl
 i9 := by kernel_rfl
 i20 := by kernel_rfl
 i37 := by kernel_rfl
 i46 := by kernel_rfl
 i51 := by kernel_rfl
 i53 := by kernel_rfl
 i171 := by kernel_rfl
 i173 := by kernel_rfl
 i212 := by kernel_rfl
 i232 := by kernel_rfl
 i233 := by kernel_rfl
 m17 := by kernel_rfl
 m18 := by kernel_rfl
 m19 := by kernel_rfl }
open Go.RowKit Go.Sort Go.Lib in
theorem Tryz.strconv_Itoa (n : Int) (h0 : -9223372036854775808 <= n) (h1 : n <= 9223372036854775807) (w : World) (htab : Lib.TabIs Tryz.prog w "internal/strconv.uint64pow10" .u64 Lib.pow10Tab) :
  Calls Tryz.prog 91 #[.int .i64 n] w fun e w' => e = .returned (.string ⟨(Lib.itoa n).toArray⟩) /\ ∃ k os, w' = grow (w.drewN k) os := Any.strconv_Itoa Tryz.laysM171 n h0 h1 w htab
def Tryz.laysC172_ren : Go.Shelf.Ren := ⟨fun | 172 => 229 | 244 => 257 | 245 => 258 | 247 => 273 | 279 => 274 | 280 => 275 | 281 => 276 | 282 => 277 | 287 => 296 | 316 => 297 | 171 => 91 | 205 => 298 | 321 => 307 | 322 => 308 | 243 => 140 | 246 => 191 | 283 => 224 | 284 => 225 | 285 => 226 | 286 => 227 | 129 => 180 | 317 => 253 | 318 => 254 | 319 => 255 | 320 => 256 | 337 => 271 | 338 => 272 | n => n, fun | 9 => 9 | 3 => 3 | 75 => 173 | 76 => 174 | 4 => 4 | 5 => 5 | 167 => 278 | 37 => 169 | 0 => 0 | 85 => 279 | 2 => 2 | 168 => 281 | 53 => 210 | 175 => 291 | 46 => 154 | 210 => 294 | 127 => 217 | 145 => 313 | 143 => 311 | 21 => 21 | 171 => 243 | 173 => 245 | 212 => 264 | 51 => 208 | 20 => 20 | 213 => 265 | 232 => 289 | 233 => 290 | 80 => 177 | n => n, fun | 15 => 4 | 16 => 5 | 17 => 1 | 18 => 2 | 19 => 3 | n => n⟩
theorem Tryz.laysC172 : Go.Proofs.LaysC.n172 Tryz.prog Tryz.laysC172_ren := {
 mixed := by kernel_rfl
 f129 := Tryz.func180.trans (congrArg some (by kernel_rfl))
 f171 := Tryz.func91.trans (congrArg some (by kernel_rfl))
 f172 := Tryz.func229.trans (congrArg some (by kernel_rfl))
 f205 := Tryz.func298.trans (congrArg some (by kernel_rfl))
 f243 := Tryz.func140.trans (congrArg some (by kernel_rfl))
 f244 := Tryz.func257.trans (congrArg some (by kernel_rfl))
 f245 := Tryz.func258.trans (congrArg some (by kernel_rfl))
 f246 := Tryz.func191.trans (congrArg some (by kernel_rfl))
 f247 := Tryz.func273.trans (congrArg some (by kernel_rfl))
 f279 := Tryz.func274.trans (congrArg some (by kernel_rfl))
 f280 := Tryz.func275.trans (congrArg some (by kernel_rfl))
 f281 := Tryz.func276.trans (congrArg some (by kernel_rfl))
 f282 := Tryz.func277.trans (congrArg some (by kernel_rfl))
 f283 := Tryz.func224.trans (congrArg some (by kernel_rfl))
 f284 := Tryz.func225.trans (congrArg some (by kernel_rfl))
 f285 := Tryz.func226.trans (congrArg some (by kernel_rfl))
 f286 := Tryz.func227.trans (congrArg some (by kernel_rfl))
 f287 := Tryz.func296.trans (congrArg some (by kernel_rfl))
 f316 := Tryz.func297.trans (congrArg some (by kernel_rfl))
 f317 := Tryz.func253.trans (congrArg some (by kernel_rfl))
 f318 := Tryz.func254.trans (congrArg some (by kernel_rfl))
 f319 := Tryz.func255.trans (congrArg some (by kernel_rfl))
 f320 := Tryz.func256.trans (congrArg some (by kernel_rfl))
 f321 := Tryz.func307.trans (congrArg some (by kernel_rfl))
 f322 := Tryz.func308.trans (congrArg some (by kernel_rfl))
 f337 := Tryz.func271.trans (congrArg some (by kernel_rfl))
 f338 := Tryz.func272.trans (congrArg some (by kernel_rfl))
 t0 := Tryz.underlying0
 a0 := Tryz.isAgg0
 z0 := Tryz.sizeOf0
 v0 := Tryz.zeroValue0
 t2 := Tryz.underlying2
 a2 := Tryz.isAgg2
 z2 := Tryz.sizeOf2
 v2 := Tryz.zeroValue2
 t3 := Tryz.underlying3
 a3 := Tryz.isAgg3
 z3 := Tryz.sizeOf3
 v3 := Tryz.zeroValue3
 t4 := Tryz.underlying4
 a4 := Tryz.isAgg4
 z4 := Tryz.sizeOf4
 v4 := Tryz.zeroValue4
 t5 := Tryz.underlying5
 a5 := Tryz.isAgg5
 z5 := Tryz.sizeOf5
 v5 := Tryz.zeroValue5
 t9 := Tryz.underlying9
 a9 := Tryz.isAgg9
 z9 := Tryz.sizeOf9
 v9 := Tryz.zeroValue9
 t20 := Tryz.underlying20
 a20 := Tryz.isAgg20
 z20 := Tryz.sizeOf20
 v20 := Tryz.zeroValue20
 t21 := Tryz.underlying21
 a21 := Tryz.isAgg21
 z21 := Tryz.sizeOf21
 v21 := Tryz.zeroValue21
 t37 := Tryz.underlying169
 a37 := Tryz.isAgg169
 z37 := Tryz.sizeOf169
 v37 := Tryz.zeroValue169
 t46 := Tryz.underlying154
 a46 := Tryz.isAgg154
 z46 := Tryz.sizeOf154
 v46 := Tryz.zeroValue154
 t51 := Tryz.underlying208
 a51 := Tryz.isAgg208
 z51 := Tryz.sizeOf208
 v51 := Tryz.zeroValue208
 t53 := Tryz.underlying210
 a53 := Tryz.isAgg210
 z53 := Tryz.sizeOf210
 v53 := Tryz.zeroValue210
 t75 := Tryz.underlying173
 a75 := Tryz.isAgg173
 z75 := Tryz.sizeOf173
 v75 := Tryz.zeroValue173
 t76 := Tryz.underlying174
 a76 := Tryz.isAgg174
 z76 := Tryz.sizeOf174
 v76 := Tryz.zeroValue174
 t85 := Tryz.underlying279
 a85 := Tryz.isAgg279
 z85 := Tryz.sizeOf279
 v85 := Tryz.zeroValue279
 t127 := Tryz.underlying217
 a127 := Tryz.isAgg217
 z127 := Tryz.sizeOf217
 v127 := Tryz.zeroValue217
 t143 := Tryz.underlying311
 a143 := Tryz.isAgg311
 z143 := Tryz.sizeOf311
 v143 := Tryz.zeroValue311
 t145 := Tryz.underlying313
 a145 := Tryz.isAgg313
 z145 := Tryz.sizeOf313
 v145 := Tryz.zeroValue313
 t167 := Tryz.underlying278
 a167 := Tryz.isAgg278
 z167 := Tryz.sizeOf278
 v167 := Tryz.zeroValue278
 t168 := Tryz.underlying281
 a168 := Tryz.isAgg281
 z168 := Tryz.sizeOf281
 v168 := Tryz.zeroValue281
 t171 := Tryz.underlying243
 a171 := Tryz.isAgg243
 z171 := Tryz.sizeOf243
 v171 := Tryz.zeroValue243
 t173 := Tryz.underlying245
 a173 := Tryz.isAgg245
 z173 := Tryz.sizeOf245
 v173 := Tryz.zeroValue245
 t175 := Tryz.underlying291
 a175 := Tryz.isAgg291
 z175 := Tryz.sizeOf291
 v175 := Tryz.zeroValue291
 t210 := Tryz.underlying294
 a210 := Tryz.isAgg294
 z210 := Tryz.sizeOf294
 v210 := Tryz.zeroValue294
 t212 := Tryz.underlying264
 a212 := Tryz.isAgg264
 z212 := Tryz.sizeOf264
 v212 := Tryz.zeroValue264
 t213 := Tryz.underlying265
 a213 := Tryz.isAgg265
 z213 := Tryz.sizeOf265
 t232 := Tryz.underlying289
 a232 := Tryz.isAgg289
 z232 := Tryz.sizeOf289
 v232 := Tryz.zeroValue289
 t233 := Tryz.underlying290
 a233 := Tryz.isAgg290
 z233 := Tryz.sizeOf290
 v233 := Tryz.zeroValue290
 g15 := by kernel_rfl
 g16 := by kernel_rfl
 g17 := by kernel_rfl
 g18 := by kernel_rfl
 g19 := by kernel_rfl
 t80 := Tryz.underlying177
 a80 := Tryz.isAgg177
 z80 := Tryz.sizeOf177
 v80 := Tryz.zeroValue177
 i0 := by kernel_rfl
 i2 := by kernel_rfl
 i3 := by kernel_rfl
 i4 := by kernel_rfl
 i5 := by kernel_rfl
 i9 := by kernel_rfl
 i20 := by kernel_rfl
 i21 := by kernel_rfl
 i37 := by kernel_rfl
 i46 := by kernel_rfl
 i51 := by kernel_rfl
 i53 := by kernel_rfl
 i75 := by kernel_rfl
 i76 := by kernel_rfl
 i80 := by kernel_rfl
 i85 := by kernel_rfl
 i127 := by kernel_rfl
 i143 := by kernel_rfl
 i145 := by kernel_rfl
 i167 := by kernel_rfl
 i168 := by kernel_rfl
 i171 := by kernel_rfl
 i173 := by kernel_rfl
 i175 := by kernel_rfl
 i210 := by kernel_rfl
 i212 := by kernel_rfl
 i232 := by kernel_rfl
 i233 := by kernel_rfl
 m15 := by kernel_rfl
 m16 := by kernel_rfl
 m17 := by kernel_rfl
 m18 := by kernel_rfl
 m19 := by kernel_rfl
 c0 := by kernel_rfl
 c2 := by kernel_rfl
 c3 := by kernel_rfl
 c4 := by kernel_rfl
 c5 := by kernel_rfl
 c9 := by kernel_rfl
 c20 := by kernel_rfl
 c21 := by kernel_rfl
 c37 := by kernel_rfl
 c46 := by kernel_rfl
 c51 := by kernel_rfl
 c53 := by kernel_rfl
 c75 := by kernel_rfl
 c76 := by kernel_rfl
 c80 := by kernel_rfl
 c85 := by kernel_rfl
 c127 := by kernel_rfl
 c143 := by kernel_rfl
 c145 := by kernel_rfl
 c167 := by kernel_rfl
 c168 := by kernel_rfl
 c171 := by kernel_rfl
 c173 := by kernel_rfl
 c175 := by kernel_rfl
 c210 := by kernel_rfl
 c212 := by kernel_rfl
 c213 := by kernel_rfl
 c232 := by kernel_rfl
 c233 := by kernel_rfl }
open Go.RowKit Go.Sort Go.Lib in
theorem Tryz.strconv_Atoi_ok (s : ByteArray) (hmax : s.size <= 9223372036854775806) (v : Int) (h : Lib.atoiAll s.data.toList = .ok v) (w : World) :
  Calls Tryz.prog 229 #[.string s] w fun e w' => e = .returned (.tuple #[.int .i64 v, .nilIface]) /\ (w' = w ∨ ∃ t, w' = Lib.bytesWorld w 5 t) := Any.strconv_Atoi_ok Tryz.laysC172 s hmax v h w
open Go.RowKit Go.Sort Go.Lib in
theorem Tryz.strconv_Atoi_syntax_var (s : ByteArray) (hlim : s.size <= 281474976710656) (h : Lib.atoiAll s.data.toList = Lib.atoiAll []) (tp : TypeId) (p : Value) (w : World) (hvar : w.var? Tryz.prog "strconv.ErrSyntax" = some #[.iface tp p]) :
  Calls Tryz.prog 229 #[.string s] w fun e w' => ∃ N, e = .returned (.tuple #[.int .i64 0, .iface 281 (.pointer (some ⟨N, 0, none⟩))]) /\ w.heap.size <= N /\ w'.heap[N]? = some (.cells #[.string ⟨#[65, 116, 111, 105]⟩, .string s, .iface tp p] 294 (0, 0)) /\ Below w.heap.size w w' := Any.strconv_Atoi_syntax_var Tryz.laysC172 s hlim h tp p w hvar
open Go.RowKit Go.Sort Go.Lib in
theorem Tryz.strconv_Atoi_range_var (s : ByteArray) (hlim : s.size <= 281474976710656) (h : Lib.atoiAll s.data.toList = .range) (tp : TypeId) (p : Value) (w : World) (hvar : w.var? Tryz.prog "strconv.ErrRange" = some #[.iface tp p]) :
  Calls Tryz.prog 229 #[.string s] w fun e w' => ∃ N, e = .returned (.tuple #[.int .i64 (Lib.atoiSat s.data.toList), .iface 281 (.pointer (some ⟨N, 0, none⟩))]) /\ w.heap.size <= N /\ w'.heap[N]? = some (.cells #[.string ⟨#[65, 116, 111, 105]⟩, .string s, .iface tp p] 294 (0, 0)) /\ Below w.heap.size w w' := Any.strconv_Atoi_range_var Tryz.laysC172 s hlim h tp p w hvar
def Tryz.lays147_ren : Go.Shelf.Ren := ⟨fun | 147 => 300 | 221 => 196 | 268 => 230 | 138 => 231 | 143 => 152 | 195 => 259 | 197 => 260 | 218 => 261 | 219 => 197 | 260 => 278 | 217 => 232 | 225 => 233 | 224 => 234 | 267 => 235 | 266 => 262 | 314 => 263 | n => n, fun | 9 => 9 | 3 => 3 | 31 => 23 | 4 => 4 | 0 => 0 | 105 => 267 | 21 => 21 | 5 => 5 | 46 => 154 | 119 => 296 | 139 => 299 | 138 => 298 | 146 => 269 | 51 => 208 | n => n, fun | 1 => 0 | 3 => 6 | 4 => 7 | n => n⟩
theorem Tryz.lays147 : Go.Proofs.Lays.n147 Tryz.prog Tryz.lays147_ren := {
 mixed := by kernel_rfl
 f138 := Tryz.func231.trans (congrArg some (by kernel_rfl))
 f143 := Tryz.func152.trans (congrArg some (by kernel_rfl))
 f147 := Tryz.func300.trans (congrArg some (by kernel_rfl))
 f195 := Tryz.func259.trans (congrArg some (by kernel_rfl))
 f197 := Tryz.func260.trans (congrArg some (by kernel_rfl))
 f217 := Tryz.func232.trans (congrArg some (by kernel_rfl))
 f218 := Tryz.func261.trans (congrArg some (by kernel_rfl))
 f219 := Tryz.func197.trans (congrArg some (by kernel_rfl))
 f221 := Tryz.func196.trans (congrArg some (by kernel_rfl))
 f224 := Tryz.func234.trans (congrArg some (by kernel_rfl))
 f225 := Tryz.func233.trans (congrArg some (by kernel_rfl))
 f260 := Tryz.func278.trans (congrArg some (by kernel_rfl))
 f266 := Tryz.func262.trans (congrArg some (by kernel_rfl))
 f267 := Tryz.func235.trans (congrArg some (by kernel_rfl))
 f268 := Tryz.func230.trans (congrArg some (by kernel_rfl))
 f314 := Tryz.func263.trans (congrArg some (by kernel_rfl))
 t0 := Tryz.underlying0
 a0 := Tryz.isAgg0
 z0 := Tryz.sizeOf0
 v0 := Tryz.zeroValue0
 t3 := Tryz.underlying3
 a3 := Tryz.isAgg3
 z3 := Tryz.sizeOf3
 v3 := Tryz.zeroValue3
 t4 := Tryz.underlying4
 a4 := Tryz.isAgg4
 z4 := Tryz.sizeOf4
 v4 := Tryz.zeroValue4
 t5 := Tryz.underlying5
 a5 := Tryz.isAgg5
 z5 := Tryz.sizeOf5
 v5 := Tryz.zeroValue5
 t9 := Tryz.underlying9
 a9 := Tryz.isAgg9
 z9 := Tryz.sizeOf9
 v9 := Tryz.zeroValue9
 t21 := Tryz.underlying21
 a21 := Tryz.isAgg21
 z21 := Tryz.sizeOf21
 v21 := Tryz.zeroValue21
 t31 := Tryz.underlying23
 a31 := Tryz.isAgg23
 z31 := Tryz.sizeOf23
 v31 := Tryz.zeroValue23
 t46 := Tryz.underlying154
 a46 := Tryz.isAgg154
 z46 := Tryz.sizeOf154
 v46 := Tryz.zeroValue154
 t51 := Tryz.underlying208
 a51 := Tryz.isAgg208
 z51 := Tryz.sizeOf208
 v51 := Tryz.zeroValue208
 t105 := Tryz.underlying267
 a105 := Tryz.isAgg267
 z105 := Tryz.sizeOf267
 v105 := Tryz.zeroValue267
 t119 := Tryz.underlying296
 a119 := Tryz.isAgg296
 z119 := Tryz.sizeOf296
 t138 := Tryz.underlying298
 a138 := Tryz.isAgg298
 z138 := Tryz.sizeOf298
 v138 := Tryz.zeroValue298
 t139 := Tryz.underlying299
 a139 := Tryz.isAgg299
 z139 := Tryz.sizeOf299
 v139 := Tryz.zeroValue299
 t146 := Tryz.underlying269
 a146 := Tryz.isAgg269
 z146 := Tryz.sizeOf269
 v146 := Tryz.zeroValue269
 g1 := by kernel_rfl
 g3 := by kernel_rfl
 g4 := by kernel_rfl }
open Go.RowKit Go.Sort Go.Lib in
theorem Tryz.strings_SplitN (s sep : ByteArray) (n : Nat) (m : Int) (w : World) (hs : s.size < 4294967281) (hm : w.cell? ⟨0, 0, none⟩ = some (.int .i64 m)) (h1 : 1 <= sep.size) (hn : 1 <= n) (hn63 : n <= 9223372036854775807) :
  Calls Tryz.prog 300 #[.string s, .string sep, .int .i64 n] w fun e w' =>
   e = .returned (.slice (some ⟨w.heap.size, 0, none⟩) (Lib.splitB sep 0 (min n (s.size + 1) - 1) s).length (min n (s.size + 1))) /\ w' = w.alloc (.cells (Lib.cellsOf (Lib.splitB sep 0 (min n (s.size + 1) - 1) s) (min n (s.size + 1))) 9) := Any.strings_SplitN Tryz.lays147 (by kernel_rfl) s sep n m w hs hm h1 hn hn63
def Tryz.lays156_ren : Go.Shelf.Ren := ⟨fun | 156 => 139 | 165 => 190 | 166 => 141 | 169 => 143 | 240 => 192 | 241 => 223 | 276 => 228 | 277 => 252 | n => n, fun | 31 => 23 | 9 => 9 | 3 => 3 | 4 => 4 | 0 => 0 | 20 => 20 | 72 => 171 | 76 => 174 | 70 => 168 | 37 => 169 | 75 => 173 | 127 => 217 | 164 => 247 | 5 => 5 | 80 => 177 | n => n, fun | n => n⟩
theorem Tryz.lays156 : Go.Proofs.Lays.n156 Tryz.prog Tryz.lays156_ren := {
 mixed := by kernel_rfl
 f156 := Tryz.func139.trans (congrArg some (by kernel_rfl))
 f165 := Tryz.func190.trans (congrArg some (by kernel_rfl))
 f166 := Tryz.func141.trans (congrArg some (by kernel_rfl))
 f169 := Tryz.func143.trans (congrArg some (by kernel_rfl))
 f240 := Tryz.func192.trans (congrArg some (by kernel_rfl))
 f241 := Tryz.func223.trans (congrArg some (by kernel_rfl))
 f276 := Tryz.func228.trans (congrArg some (by kernel_rfl))
 f277 := Tryz.func252.trans (congrArg some (by kernel_rfl))
 t0 := Tryz.underlying0
 a0 := Tryz.isAgg0
 z0 := Tryz.sizeOf0
 v0 := Tryz.zeroValue0
 t3 := Tryz.underlying3
 a3 := Tryz.isAgg3
 z3 := Tryz.sizeOf3
 v3 := Tryz.zeroValue3
 t4 := Tryz.underlying4
 a4 := Tryz.isAgg4
 z4 := Tryz.sizeOf4
 v4 := Tryz.zeroValue4
 t9 := Tryz.underlying9
 a9 := Tryz.isAgg9
 z9 := Tryz.sizeOf9
 v9 := Tryz.zeroValue9
 t20 := Tryz.underlying20
 a20 := Tryz.isAgg20
 z20 := Tryz.sizeOf20
 v20 := Tryz.zeroValue20
 t31 := Tryz.underlying23
 a31 := Tryz.isAgg23
 z31 := Tryz.sizeOf23
 v31 := Tryz.zeroValue23
 t37 := Tryz.underlying169
 a37 := Tryz.isAgg169
 z37 := Tryz.sizeOf169
 v37 := Tryz.zeroValue169
 t70 := Tryz.underlying168
 a70 := Tryz.isAgg168
 z70 := Tryz.sizeOf168
 v70 := Tryz.zeroValue168
 t72 := Tryz.underlying171
 a72 := Tryz.isAgg171
 z72 := Tryz.sizeOf171
 v72 := Tryz.zeroValue171
 t75 := Tryz.underlying173
 a75 := Tryz.isAgg173
 z75 := Tryz.sizeOf173
 v75 := Tryz.zeroValue173
 t76 := Tryz.underlying174
 a76 := Tryz.isAgg174
 z76 := Tryz.sizeOf174
 v76 := Tryz.zeroValue174
 t127 := Tryz.underlying217
 a127 := Tryz.isAgg217
 z127 := Tryz.sizeOf217
 v127 := Tryz.zeroValue217
 t164 := Tryz.underlying247
 a164 := Tryz.isAgg247
 z164 := Tryz.sizeOf247
 v164 := Tryz.zeroValue247 }
theorem Tryz.Builder_Extra_156 : Builder.Extra Tryz.prog Tryz.lays156_ren := {
 sizeBuilder := by kernel_rfl
 liesBuilder := by kernel_rfl
 t5 := Tryz.underlying5
 a5 := Tryz.isAgg5
 z5 := Tryz.sizeOf5
 v5 := Tryz.zeroValue5
 infoByte := by kernel_rfl
 cellsByte := by kernel_rfl
 sizeByte := by kernel_rfl
 neB5 := by decide }
open Go.RowKit Go.Sort Go.Lib in
theorem Tryz.strings_Join (bk o c : Nat) (xs : List ByteArray) (sep : ByteArray) (w : World) (hcells : ∀ (j : Nat) x, xs[j]? = some x -> w.cell? ⟨bk, o + j, none⟩ = some (.string x)) (hbk : bk < w.heap.size) (hN : xs.length <= 140737488355328) (hcap : xs.length <= c) (hlen : (Lib.join (xs.map (·.data.toList)) sep.data.toList).length <= 140737488355328) :
  Calls Tryz.prog 139 #[.slice (some ⟨bk, o, none⟩) xs.length c, .string sep] w fun e w' => e = .returned (.string ⟨(Lib.join (xs.map (·.data.toList)) sep.data.toList).toArray⟩) /\ Below w.heap.size w w' := Any.strings_Join Tryz.lays156 Tryz.Builder_Extra_156 bk o c xs sep w hcells hbk hN hcap hlen
open Go.RowKit Go.Sort Go.Lib in
theorem Tryz.strings_Join_none (a : Option Addr) (c : Nat) (sep : ByteArray) (w : World) :
  Calls Tryz.prog 139 #[.slice a 0 c, .string sep] w fun e w' => e = .returned (.string ⟨#[]⟩) /\ w' = w := Any.strings_Join_none Tryz.lays156 Tryz.Builder_Extra_156 a c sep w
def Tryz.lays109_ren : Go.Shelf.Ren := ⟨fun | 109 => 283 | n => n, fun | 31 => 23 | 9 => 9 | 3 => 3 | 0 => 0 | 4 => 4 | n => n, fun | n => n⟩
theorem Tryz.lays109 : Go.Proofs.Lays.n109 Tryz.prog Tryz.lays109_ren := {
 mixed := by kernel_rfl
 f109 := Tryz.func283.trans (congrArg some (by kernel_rfl))
 t0 := Tryz.underlying0
 a0 := Tryz.isAgg0
 z0 := Tryz.sizeOf0
 v0 := Tryz.zeroValue0
 t3 := Tryz.underlying3
 a3 := Tryz.isAgg3
 z3 := Tryz.sizeOf3
 v3 := Tryz.zeroValue3
 t4 := Tryz.underlying4
 a4 := Tryz.isAgg4
 z4 := Tryz.sizeOf4
 v4 := Tryz.zeroValue4
 t9 := Tryz.underlying9
 a9 := Tryz.isAgg9
 z9 := Tryz.sizeOf9
 v9 := Tryz.zeroValue9
 t31 := Tryz.underlying23
 a31 := Tryz.isAgg23
 z31 := Tryz.sizeOf23
 v31 := Tryz.zeroValue23 }
open Go.RowKit Go.Sort Go.Lib in
theorem Tryz.slices_Index_string (b off n c : Nat) (zs : List ByteArray) (x : ByteArray) (w : World) (hz : n <= zs.length) (hbig : n <= 9223372036854775807) (hc : ∀ j, j < zs.length -> w.cell? ⟨b, off + j, none⟩ = some (.string (zs.getD j ByteArray.empty))) :
  Calls Tryz.prog 283 #[.slice (some ⟨b, off, none⟩) n c, .string x] w fun e w' => e = .returned (.int .i64 (Lib.idxOfS (zs.take n) x)) /\ w' = w := Any.slices_Index_string Tryz.lays109 b off n c zs x w hz hbig hc
end Go.Proofs

namespace Go.Proofs.YtccikcpcfdjobaaGreatDoor
section
open Go.RowKit Go.Lib
def sv (l : Cs.Bs) : Value := .string ⟨l.toArray⟩
theorem y06 (l : Cs.Bs) : sv l = .string ⟨l.toArray⟩ := rfl
structure Env (w : World) : Prop where
 sn : Sn w
 gl : 9 <= w.heap.size
 pow : Lib.TabIs Tryz.prog w "internal/strconv.uint64pow10" .u64 Lib.pow10Tab
 mx : ∃ m : Int, w.cell? ⟨0, 0, none⟩ = some (.int .i64 m)
 syn : ∃ tp p, w.var? Tryz.prog "strconv.ErrSyntax" = some #[.iface tp p]
 rng : ∃ tp p, w.var? Tryz.prog "strconv.ErrRange" = some #[.iface tp p]
theorem y1z {P : Program} {w w' : World} {name : String} {g : Nat} (hg : P.globalNamed name = some g) (h : w'.heap[g]? = w.heap[g]?) : w'.var? P name = w.var? P name := by
 simp [World.var?, hg, h]
theorem Env.step {w w' : World} (h : Env w) (hb : Below w.heap.size w w') : Env w' := by
 have g9 := h.gl;have v1 : w'.var? Tryz.prog "internal/strconv.uint64pow10" = w.var? Tryz.prog "internal/strconv.uint64pow10" := y1z (g := 1) (by kernel_rfl) (hb.block _ (by omega));have v2 : w'.var? Tryz.prog "strconv.ErrSyntax" = w.var? Tryz.prog "strconv.ErrSyntax" := y1z (g := 4) (by kernel_rfl) (hb.block _ (by omega));have v3 : w'.var? Tryz.prog "strconv.ErrRange" = w.var? Tryz.prog "strconv.ErrRange" := y1z (g := 5) (by kernel_rfl) (hb.block _ (by omega));obtain ⟨m, hm⟩ := h.mx;exact ⟨h.sn.step hb, Nat.le_trans g9 hb.size, v1.trans h.pow, ⟨m, (hb.cell (p := ⟨0, 0, none⟩) (by simp; omega)).trans hm⟩, by rw [v2]; exact h.syn, by rw [v3]; exact h.rng⟩
theorem y8E (B : Nat) (w : World) (q : Nat) (os : Array Obj) (hB : B <= w.heap.size) : Below B w (Go.Sort.grow (w.drewN q) os) :=
 ⟨rfl, rfl, rfl, by simp [Go.Sort.grow], fun k hk => by
  simp only [Go.Sort.grow];rw [Array.getElem?_append_left (by simp; omega)];rfl⟩
theorem y2z (w : World) (e : TypeId) (s : ByteArray) : Below w.heap.size w (Lib.bytesWorld w e s) :=
 ⟨rfl, rfl, rfl, by rw [Lib.bytesWorld_size]; omega, fun k hk => Lib.bytesWorld_at_old w e s k (by omega)⟩
theorem y1v (n : Int) (h0 : -9223372036854775808 <= n) (h1 : n <= 9223372036854775807) (w : World) (hE : Env w) :
  Calls Tryz.prog 91 #[.int .i64 n] w fun e w' => e = .returned (sv (Lib.itoa n)) /\ Below w.heap.size w w' :=
 (Tryz.strconv_Itoa n h0 h1 w hE.pow).mono fun _ _ ⟨h, k, os, hw⟩ => ⟨h, by rw [hw]; exact y8E _ _ _ _ (Nat.le_refl _)⟩
theorem y9L (l : Cs.Bs) (v : Int) (hv : Cs.numF l = some v) (hl : l.length <= 1000000) (w : World) :
  Calls Tryz.prog 229 #[sv l] w fun e w' => e = .returned (.tuple #[.int .i64 v, .nilIface]) /\ Below w.heap.size w w' := by
 have h : Lib.atoiAll l = .ok v := by
  unfold Cs.numF at hv;rcases ha : Lib.atoiAll l with x | _ | _
  ·rw [ha] at hv; simp only [Option.some.injEq] at hv; rw [hv]
  ·rw [ha] at hv; cases hv
  rw [ha] at hv; cases hv
 refine (Tryz.strconv_Atoi_ok ⟨l.toArray⟩ (by simp [ByteArray.size]; omega) v (by simpa using h) w).mono ?_;rintro e w' ⟨he, hw | ⟨t, hw⟩⟩
 ·subst hw; exact ⟨he, Below.refl _ _⟩
 subst hw; exact ⟨he, y2z _ _ _⟩
theorem y9K (l : Cs.Bs) (hv : Cs.numF l = none) (hl : l.length <= 1000000) (w : World) (hE : Env w) :
  Calls Tryz.prog 229 #[sv l] w fun e w' => ∃ v t p, e = .returned (.tuple #[.int .i64 v, .iface t p]) /\ Below w.heap.size w w' := by
 rcases ha : Lib.atoiAll l with x | _ | _
 ·unfold Cs.numF at hv; rw [ha] at hv; cases hv
 ·obtain ⟨tp, p, hvar⟩ := hE.syn;refine (Tryz.strconv_Atoi_syntax_var ⟨l.toArray⟩ (by simp [ByteArray.size]; omega) (show Lib.atoiAll l = Lib.atoiAll [] from ha) tp p w hvar).mono ?_;rintro e w' ⟨N, he, _, _, hb⟩;exact ⟨_, _, _, he, hb⟩
 obtain ⟨tp, p, hvar⟩ := hE.rng;refine (Tryz.strconv_Atoi_range_var ⟨l.toArray⟩ (by simp [ByteArray.size]; omega) (by simpa using ha) tp p w hvar).mono ?_;rintro e w' ⟨N, he, _, _, hb⟩;exact ⟨_, _, _, he, hb⟩
def wcells (ws : List Cs.Bs) : List Value := ws.map sv
theorem yBD (ws : List Cs.Bs) (L : Nat) (h : ∀ x ∈ ws, x.length <= L) : (Lib.join ws [32]).length <= ws.length * (L + 1) := by
  have ht : ∀ r : List Cs.Bs, (∀ x ∈ r, x.length <= L) -> (Lib.joinTail [32] r).length <= r.length * (L + 1) := fun r => by
    induction r with
    | nil => intro _; simp [Lib.joinTail]
    | cons y t ih =>
      intro h;have h1 := h y List.mem_cons_self;have h2 := ih (fun x hx => h x (List.mem_cons_of_mem _ hx));rw [show Lib.joinTail [32] (y :: t) = 32 :: (y ++ Lib.joinTail [32] t) by simp [Lib.joinTail]];simp only [List.length_cons, List.length_append, Nat.succ_mul];omega
  cases ws with
  | nil => simp [Lib.join_nil]
  | cons w r =>
    have h1 := h w List.mem_cons_self;have h2 := ht r (fun x hx => h x (List.mem_cons_of_mem _ hx));rw [Lib.join_cons];simp only [List.length_cons, List.length_append, Nat.succ_mul];omega
theorem y7o (A : Option Addr) (c : Nat) (ws : List Cs.Bs) (w : World) (hR : Rd w w.heap.size 1 A ws.length (wcells ws)) (hc : ws.length <= c) (hn : ws.length <= 1000000) (hl : ∀ x ∈ ws, x.length <= 1000000) :
    Calls Tryz.prog 139 #[.slice A ws.length c, .string ⟨#[32]⟩] w fun e w' => e = .returned (sv (Lib.join ws [32])) /\ Below w.heap.size w w' := by
  by_cases h0 : ws = []
  · subst h0
    refine (Tryz.strings_Join_none A c ⟨#[32]⟩ w).mono ?_;rintro e w' ⟨he, rfl⟩;exact ⟨by rw [he]; rfl, Below.refl _ _⟩
  have hp : 0 < ws.length := by cases ws with | nil => exact absurd rfl h0 | cons _ _ => simp
  obtain ⟨b, off, rfl, hb, hcell⟩ := hR.2 hp;have hlen := yBD ws 1000000 hl;have hm : (ws.map fun l => (⟨l.toArray⟩ : ByteArray)).map (·.data.toList) = ws := by
    rw [List.map_map];exact (List.map_congr_left (fun l _ => by simp)).trans (List.map_id ws)
  have h := Tryz.strings_Join b off c (ws.map fun l => ⟨l.toArray⟩) ⟨#[32]⟩ w (fun j x hj => by
    have hj' : j < ws.length := by
      have := (List.getElem?_eq_some_iff.1 hj).1;simpa using this
    rw [hcell j (by omega)];simp only [List.getElem?_map] at hj;simp only [wcells, List.getElem?_map];cases hw : ws[j]? with
    | none => rw [hw] at hj; cases hj
    | some l =>
      rw [hw] at hj;simp only [Option.map_some, Option.some.injEq] at hj ⊢;rw [<- hj]; rfl) hb (by simp; omega) (by simpa using hc) (by rw [hm]; simp; omega)
  rw [hm] at h;simp only [List.length_map] at h;exact h
end

section
open Go.RowKit
theorem y1f {α : Type} {cell : α -> List Value} {n : Nat} (hc : ∀ a, (cell a).length = n) (ys : List α) : (ys.flatMap cell).length = ys.length * n := by
 induction ys with
 | nil => simp
 | cons y t ih => rw [List.flatMap_cons, List.length_append, hc, ih, List.length_cons, Nat.succ_mul]; omega
theorem yB7 {α : Type} {cell : α -> List Value} {n : Nat} (hc : ∀ a, (cell a).length = n) (ys : List α) {k : Nat} (hk : k < ys.length) {j : Nat} (hj : j < n) : (ys.flatMap cell)[k * n + j]? = (cell ys[k])[j]? := by
  induction ys generalizing k with
  | nil => simp at hk
  | cons y t ih =>
    rw [List.flatMap_cons];cases k with
    | zero =>
      rw [List.getElem?_append_left (by rw [hc]; omega)];simp
    | succ k =>
      have : (k + 1) * n + j = n + (k * n + j) := by rw [Nat.succ_mul]; omega
      rw [List.getElem?_append_right (by rw [hc, this]; omega), hc, this, Nat.add_sub_cancel_left];simpa using ih (k := k) (by simpa using hk)
theorem Rd.item {α : Type} {cell : α -> List Value} {n B : Nat} {w : World} {A : Option Addr} {ys : List α} (h : Rd w B n A ys.length (ys.flatMap cell)) (hc : ∀ a, (cell a).length = n) {k : Nat} (hk : k < ys.length) :
  ∃ b off, A = some ⟨b, off, none⟩ /\ b < B /\ ∀ j, j < n -> w.cell? ⟨b, off + (k * n + j), none⟩ = (cell ys[k])[j]? := by
 obtain ⟨b, off, e, hb, hcell⟩ := h.2 (by omega);refine ⟨b, off, e, hb, fun j hj => ?_⟩;have hm : k * n + j < ys.length * n := by
  have := Nat.mul_le_mul_right n (show k + 1 <= ys.length by omega);rw [Nat.succ_mul] at this;omega
 rw [hcell _ hm, yB7 hc ys hk hj]
def scell (s : Cs.Bs × Int) : List Value := [sv s.1, .int .i64 s.2]
def scells (l : List (Cs.Bs × Int)) : List Value := l.flatMap scell
def pcell (p : Dd.Pa) : List Value := [sv p.name, .int .i64 p.south, .int .i64 p.west, .int .i64 p.east]
def pcells (l : List Dd.Pa) : List Value := l.flatMap pcell
def bcell (b : Dd.Bd) : List Value := [.int .i64 b.f, .int .i64 b.t, .int .i64 b.m, .int .i64 b.r]
def bval (b : Dd.Bd) : Value := .agg #[.int .i64 b.f, .int .i64 b.t, .int .i64 b.m, .int .i64 b.r]
def bcells (l : List Dd.Bd) : List Value := l.flatMap bcell
def cacell (c : Dd.Ca) : List Value := [.int .u8 c.k, .int .i64 c.l, .int .i64 c.o, .int .i64 c.a, .int .i64 c.b, .int .i64 c.s, .int .i64 c.e, .int .i64 c.c.b, .int .i64 c.c.n, .int .i64 c.c.l, .int .i64 c.c.y, .int .i64 c.c.w, .int .i64 c.c.s]
def caval (c : Dd.Ca) : Value := .agg #[.int .u8 c.k, .int .i64 c.l, .int .i64 c.o, .int .i64 c.a, .int .i64 c.b, .int .i64 c.s, .int .i64 c.e, .int .i64 c.c.b, .int .i64 c.c.n, .int .i64 c.c.l, .int .i64 c.c.y, .int .i64 c.c.w, .int .i64 c.c.s]
def cacells (l : List Dd.Ca) : List Value := l.flatMap cacell
theorem y6S (s : Cs.Bs × Int) : (scell s).length = 2 := rfl
theorem y68 (p : Dd.Pa) : (pcell p).length = 4 := rfl
theorem y2x (b : Dd.Bd) : (bcell b).length = 4 := rfl
section
variable {w : World} {B : Nat} {A : Option Addr}
theorem Rd.station {l : List (Cs.Bs × Int)} (h : Rd w B 2 A l.length (scells l)) {k : Nat} (hk : k < l.length) :
  ∃ b off, A = some ⟨b, off, none⟩ /\ b < B /\ w.cell? ⟨b, off + k * 2, none⟩ = some (.string ⟨l[k].1.toArray⟩) /\ w.cell? ⟨b, off + k * 2 + 1, none⟩ = some (.int .i64 l[k].2) := by
 obtain ⟨b, off, e, hb, hc⟩ := Rd.item (cell := scell) h y6S hk;exact ⟨b, off, e, hb, hc 0 (by decide), hc 1 (by decide)⟩
theorem Rd.text {l : List Cs.Bs} (h : Rd w B 1 A l.length (wcells l)) {k : Nat} (hk : k < l.length) :
  ∃ b off, A = some ⟨b, off, none⟩ /\ b < B /\ w.cell? ⟨b, off + k, none⟩ = some (.string ⟨l[k].toArray⟩) := by
 obtain ⟨b, off, e, hb, hc⟩ := h.2 (by omega);refine ⟨b, off, e, hb, ?_⟩;rw [hc k (by omega)];simp [wcells, sv, hk]
theorem Rd.parcel {l : List Dd.Pa} (h : Rd w B 4 A l.length (pcells l)) {k : Nat} (hk : k < l.length) :
  ∃ b off, A = some ⟨b, off, none⟩ /\ b < B /\ w.cell? ⟨b, off + k * 4, none⟩ = some (.string ⟨l[k].name.toArray⟩) /\ w.cell? ⟨b, off + k * 4 + 1, none⟩ = some (.int .i64 l[k].south) /\
   w.cell? ⟨b, off + k * 4 + 2, none⟩ = some (.int .i64 l[k].west) /\ w.cell? ⟨b, off + k * 4 + 3, none⟩ = some (.int .i64 l[k].east) := by
 obtain ⟨b, off, e, hb, hc⟩ := Rd.item (cell := pcell) h y68 hk;exact ⟨b, off, e, hb, hc 0 (by decide), hc 1 (by decide), hc 2 (by decide), hc 3 (by decide)⟩
end
structure Fv where
 a1 : Option Addr
 c1 : Nat
 a2 : Option Addr
 c2 : Nat
 a3 : Option Addr
 c3 : Nat
 a4 : Option Addr
 c4 : Nat
def fval (v : Fv) (f : Dd.Fd) : Value := .agg #[.slice v.a1 f.st.length v.c1, .slice v.a2 f.li.length v.c2, .slice v.a3 f.pa.length v.c3, .slice v.a4 f.va.length v.c4]
structure FRd (w : World) (B : Nat) (v : Fv) (f : Dd.Fd) : Prop where
 st : Rd w B 2 v.a1 f.st.length (scells f.st)
 li : Rd w B 1 v.a2 f.li.length (wcells f.li)
 pa : Rd w B 4 v.a3 f.pa.length (pcells f.pa)
 va : Rd w B 2 v.a4 f.va.length (vcells f.va)
 k1 : f.st.length <= v.c1
 k2 : f.li.length <= v.c2
 k3 : f.pa.length <= v.c3
 l1 : f.st.length <= 1000000
 l2 : f.li.length <= 1000000
 l3 : f.pa.length <= 1000000
 l4 : f.va.length <= 1000000
 n1 : ∀ s ∈ f.st, s.1.length <= 1000000
 n2 : ∀ s ∈ f.li, s.length <= 1000000
 n3 : ∀ p ∈ f.pa, p.name.length <= 1000000
theorem FRd.below {w w' : World} {B C : Nat} {v : Fv} {f : Dd.Fd} (h : FRd w B v f) (hb : Below C w w') (hC : B <= C) : FRd w' B v f :=
 ⟨h.st.below hb hC, h.li.below hb hC, h.pa.below hb hC, h.va.below hb hC, h.k1, h.k2, h.k3, h.l1, h.l2, h.l3, h.l4, h.n1, h.n2, h.n3⟩
theorem FRd.more {w : World} {B B' : Nat} {v : Fv} {f : Dd.Fd} (h : FRd w B v f) (hB : B <= B') : FRd w B' v f :=
 ⟨h.st.more hB, h.li.more hB, h.pa.more hB, h.va.more hB, h.k1, h.k2, h.k3, h.l1, h.l2, h.l3, h.l4, h.n1, h.n2, h.n3⟩
end

section
open Go.RowKit Go.Shelf
attribute [local go_sem] Oper.semAt_some
def uval (u : Cs.Un) : Value := .agg #[sv u.one, sv u.many, .int .i64 u.size]
def UOk (u : Cs.Un) : Prop := Cs.Wd u.one /\ Cs.Wd u.many /\ 0 < u.size /\ u.size <= 100000 /\ u.one.length <= 10 /\ u.many.length <= 10
abbrev Uo := { u : Cs.Un // UOk u }
def oChain : Uo := ⟨Cs.uChain, by simp [UOk, Cs.Wd, Cs.uChain]⟩
def oPole : Uo := ⟨Cs.uPole, by simp [UOk, Cs.Wd, Cs.uPole]⟩
def oLink : Uo := ⟨Cs.uLink, by simp [UOk, Cs.Wd, Cs.uLink]⟩
def lenO : List Uo := [oChain, oPole, oLink]
def uvals (u : Uo) : Array Value := #[uval u.1]
theorem y2E (n : Nat) (hn : 1 <= n) (Kp : World -> World -> Prop) (w : World) :
  SeqStopsK Fence.wide n Tryz.prog 281 #[] uvals Kp (fun xs => xs = lenO) (fun pre => pre <+: lenO) 3 w := fun l J Jx W _ _ _ hY h0 => by
 refine callsIn_of_wp Tryz.func281 rfl trivial ?_ rfl;simp only [Tryz.ntmps281, List.size_toArray, List.length_cons, List.length_nil, Nat.reduceAdd, Nat.reduceSub, Array.replicate_succ, Array.replicate_zero, List.push_toArray, List.append_toArray, List.nil_append, List.cons_append];have HY := jQ hY;clear hY;obtain ⟨f0, t0, a0, b0, hy0, hR0⟩ := HY.o [] oChain W h0 (by simp);rw [show uvals oChain = #[.agg #[.string ⟨#[99, 104, 97, 105, 110]⟩, .string ⟨#[99, 104, 97, 105, 110, 115]⟩, .int .i64 100]] from rfl] at hy0;gi_wp2_with (fail);refine hR0.mono ?_;rintro e W0 (⟨rfl, hJ0, _⟩ | ⟨rfl, hx0⟩)
 ·obtain ⟨f1, t1, a1, b1, hy1, hR1⟩ := HY.o [oChain] oPole W0 hJ0 (by simp);rw [show uvals oPole = #[.agg #[.string ⟨#[112, 111, 108, 101]⟩, .string ⟨#[112, 111, 108, 101, 115]⟩, .int .i64 25]] from rfl] at hy1;gi_wp2_with (fail);refine hR1.mono ?_;rintro e W1 (⟨rfl, hJ1, _⟩ | ⟨rfl, hx1⟩)
  ·obtain ⟨f2, t2, a2, b2, hy2, hR2⟩ := HY.o [oChain, oPole] oLink W1 hJ1 (by simp);rw [show uvals oLink = #[.agg #[.string ⟨#[108, 105, 110, 107]⟩, .string ⟨#[108, 105, 110, 107, 115]⟩, .int .i64 1]] from rfl] at hy2;gi_wp2_with (fail);refine hR2.mono ?_;rintro e W2 (⟨rfl, hJ2, _⟩ | ⟨rfl, hx2⟩)
   ·gi_wp2_with (fail)
    go_end0
    exact ⟨⟨_, rfl⟩, .inl ⟨lenO, rfl, hJ2⟩⟩
   gi_wp2_with (refine ⟨fun _ h => (by cases h), ?_⟩)
   go_end0
   exact ⟨⟨_, rfl⟩, .inr ⟨[oChain, oPole, oLink], ⟨[], rfl⟩, hx2⟩⟩
  gi_wp2_with (refine ⟨fun _ h => (by cases h), ?_⟩)
  go_end0
  exact ⟨⟨_, rfl⟩, .inr ⟨[oChain, oPole], ⟨[oLink], rfl⟩, hx1⟩⟩
 gi_wp2_with (refine ⟨fun _ h => (by cases h), ?_⟩)
 go_end0
 exact ⟨⟨_, rfl⟩, .inr ⟨[oChain], ⟨[oPole, oLink], rfl⟩, hx0⟩⟩
end

section
open Go.RowKit Go.Lib
theorem cat2 {P : Program} (x y : Cs.Bs) (hx : x.length <= 1000000) (hy : y.length <= 1000000) (w : World) : (Op.stringOp .add ⟨x.toArray⟩ ⟨y.toArray⟩).run P w = .ok (.string ⟨(x ++ y).toArray⟩) w :=
 run_string_add_lists w x y (by omega) (by omega)
theorem y2D {q : Int} (h0 : 0 <= q) (h1 : q <= 9223372036854775807) : (Lib.itoa q).length <= 100 := by
 rw [Cs.yCL h0, Lib.decDigits_length];exact Cs.y8k (by decide) (Nat.lt_of_lt_of_le (show q.toNat < 10 ^ 19 by omega) (Nat.pow_le_pow_right (by decide) (by decide)))
theorem yAT (d : Int) (m : Nat) (hm : Cs.norm d = m) (h0 : ¬ m % 90 = 0) (h1 : m < 90) (w : World) (hE : Env w) :
  Calls Tryz.prog 285 #[.int .i64 d] w fun e w' => e = .returned (sv (Cs.wNorth ++ [32] ++ Lib.itoa ((m : Int)) ++ [32] ++ Cs.wEast)) /\ Below w.heap.size w w' := by
 have hN := fun w => y0s d w;rw [hm] at hN;have hI := fun w h => y1v ((m : Int)) (by omega) (by omega) w h;have hl := y2D (q := (m : Int)) (by omega) (by omega);obtain ⟨t, ht⟩ := zE (Lib.itoa ((m : Int)));rw [ht] at hI hl ⊢;have c1 := fun w => cat2 (P := Tryz.prog) [110, 111, 114, 116, 104, 32] t (by decide) (by omega) w;have c2 := fun w => cat2 (P := Tryz.prog) ([110, 111, 114, 116, 104, 32] ++ t) [32, 101, 97, 115, 116] (by simp; omega) (by decide) w;have hfin : ∀ W, Below w.heap.size w W -> (Ending.returned (.string ⟨([110, 111, 114, 116, 104, 32] ++ t ++ [32, 101, 97, 115, 116]).toArray⟩) = .returned (sv (Cs.wNorth ++ [32] ++ t ++ [32] ++ Cs.wEast)) /\ Below w.heap.size w W) := fun W h => ⟨by rw [y06]; simp [Cs.wNorth, Cs.wEast], h⟩;have hd2 : ((m : Int) % 90 == 0) = false := beq_eq_false_iff_ne.2 (by omega);have hm0 : (m : Int) < 360 := by have := (Cs.y0M d).2; omega
 have g0 : (m : Int) < 90 := by omega
 obtain ⟨x1, hx1⟩ := zE (([110, 111, 114, 116, 104, 32] ++ t : Cs.Bs));rw [hx1] at c1 c2 hfin;obtain ⟨x2, hx2⟩ := zE ((x1 ++ [32, 101, 97, 115, 116] : Cs.Bs));rw [hx2] at c2 hfin;have HN := jQ hN;have HI := jQ hI;have HF := jQ hfin;have HE := jQ hE;clear hN hI hfin hm ht hx1 hx2 hE hl;go_enter Tryz.func285, Tryz.ntmps285;go_wp2_with (go_at_call 119; refine (HN.o _).mono ?_; rintro e w' ⟨rfl, rfl⟩);refine (HI.o _ HE.o).mono ?_;rintro e w1 ⟨rfl, hb1⟩;rw [y06];go_wp2_with fail;go_ret;exact HF.o _ hb1
theorem yAU (d : Int) (m : Nat) (hm : Cs.norm d = m) (h0 : ¬ m % 90 = 0) (h1 : 90 < m) (h2 : m < 180) (w : World) (hE : Env w) :
  Calls Tryz.prog 285 #[.int .i64 d] w fun e w' => e = .returned (sv (Cs.wSouth ++ [32] ++ Lib.itoa (180 - (m : Int)) ++ [32] ++ Cs.wEast)) /\ Below w.heap.size w w' := by
 have hN := fun w => y0s d w;rw [hm] at hN;have hI := fun w h => y1v (180 - (m : Int)) (by omega) (by omega) w h;have hl := y2D (q := 180 - (m : Int)) (by omega) (by omega);obtain ⟨t, ht⟩ := zE (Lib.itoa (180 - (m : Int)));rw [ht] at hI hl ⊢;have c1 := fun w => cat2 (P := Tryz.prog) [115, 111, 117, 116, 104, 32] t (by decide) (by omega) w;have c2 := fun w => cat2 (P := Tryz.prog) ([115, 111, 117, 116, 104, 32] ++ t) [32, 101, 97, 115, 116] (by simp; omega) (by decide) w;have hfin : ∀ W, Below w.heap.size w W -> (Ending.returned (.string ⟨([115, 111, 117, 116, 104, 32] ++ t ++ [32, 101, 97, 115, 116]).toArray⟩) = .returned (sv (Cs.wSouth ++ [32] ++ t ++ [32] ++ Cs.wEast)) /\ Below w.heap.size w W) := fun W h => ⟨by rw [y06]; simp [Cs.wSouth, Cs.wEast], h⟩;have hd2 : ((m : Int) % 90 == 0) = false := beq_eq_false_iff_ne.2 (by omega);have hm0 : (m : Int) < 360 := by have := (Cs.y0M d).2; omega
 have g0 : 90 <= (m : Int) := by omega
 have g1 : (m : Int) < 180 := by omega
 obtain ⟨x1, hx1⟩ := zE (([115, 111, 117, 116, 104, 32] ++ t : Cs.Bs));rw [hx1] at c1 c2 hfin;obtain ⟨x2, hx2⟩ := zE ((x1 ++ [32, 101, 97, 115, 116] : Cs.Bs));rw [hx2] at c2 hfin;have HN := jQ hN;have HI := jQ hI;have HF := jQ hfin;have HE := jQ hE;clear hN hI hfin hm ht hx1 hx2 hE hl;go_enter Tryz.func285, Tryz.ntmps285;go_wp2_with (go_at_call 119; refine (HN.o _).mono ?_; rintro e w' ⟨rfl, rfl⟩);refine (HI.o _ HE.o).mono ?_;rintro e w1 ⟨rfl, hb1⟩;rw [y06];go_wp2_with fail;go_ret;exact HF.o _ hb1
theorem yAV (d : Int) (m : Nat) (hm : Cs.norm d = m) (h0 : ¬ m % 90 = 0) (h1 : 180 < m) (h2 : m < 270) (w : World) (hE : Env w) :
  Calls Tryz.prog 285 #[.int .i64 d] w fun e w' => e = .returned (sv (Cs.wSouth ++ [32] ++ Lib.itoa ((m : Int) - 180) ++ [32] ++ Cs.wWest)) /\ Below w.heap.size w w' := by
 have hN := fun w => y0s d w;rw [hm] at hN;have hI := fun w h => y1v ((m : Int) - 180) (by omega) (by omega) w h;have hl := y2D (q := (m : Int) - 180) (by omega) (by omega);obtain ⟨t, ht⟩ := zE (Lib.itoa ((m : Int) - 180));rw [ht] at hI hl ⊢;have c1 := fun w => cat2 (P := Tryz.prog) [115, 111, 117, 116, 104, 32] t (by decide) (by omega) w;have c2 := fun w => cat2 (P := Tryz.prog) ([115, 111, 117, 116, 104, 32] ++ t) [32, 119, 101, 115, 116] (by simp; omega) (by decide) w;have hfin : ∀ W, Below w.heap.size w W -> (Ending.returned (.string ⟨([115, 111, 117, 116, 104, 32] ++ t ++ [32, 119, 101, 115, 116]).toArray⟩) = .returned (sv (Cs.wSouth ++ [32] ++ t ++ [32] ++ Cs.wWest)) /\ Below w.heap.size w W) := fun W h => ⟨by rw [y06]; simp [Cs.wSouth, Cs.wWest], h⟩;have hd2 : ((m : Int) % 90 == 0) = false := beq_eq_false_iff_ne.2 (by omega);have hm0 : (m : Int) < 360 := by have := (Cs.y0M d).2; omega
 have g0 : 90 <= (m : Int) := by omega
 have g1 : 180 <= (m : Int) := by omega
 have g2 : (m : Int) < 270 := by omega
 obtain ⟨x1, hx1⟩ := zE (([115, 111, 117, 116, 104, 32] ++ t : Cs.Bs));rw [hx1] at c1 c2 hfin;obtain ⟨x2, hx2⟩ := zE ((x1 ++ [32, 119, 101, 115, 116] : Cs.Bs));rw [hx2] at c2 hfin;have HN := jQ hN;have HI := jQ hI;have HF := jQ hfin;have HE := jQ hE;clear hN hI hfin hm ht hx1 hx2 hE hl;go_enter Tryz.func285, Tryz.ntmps285;go_wp2_with (go_at_call 119; refine (HN.o _).mono ?_; rintro e w' ⟨rfl, rfl⟩);refine (HI.o _ HE.o).mono ?_;rintro e w1 ⟨rfl, hb1⟩;rw [y06];go_wp2_with fail;go_ret;exact HF.o _ hb1
theorem yAW (d : Int) (m : Nat) (hm : Cs.norm d = m) (h0 : ¬ m % 90 = 0) (h1 : 270 < m) (h2 : m < 360) (w : World) (hE : Env w) :
  Calls Tryz.prog 285 #[.int .i64 d] w fun e w' => e = .returned (sv (Cs.wNorth ++ [32] ++ Lib.itoa (360 - (m : Int)) ++ [32] ++ Cs.wWest)) /\ Below w.heap.size w w' := by
 have hN := fun w => y0s d w;rw [hm] at hN;have hI := fun w h => y1v (360 - (m : Int)) (by omega) (by omega) w h;have hl := y2D (q := 360 - (m : Int)) (by omega) (by omega);obtain ⟨t, ht⟩ := zE (Lib.itoa (360 - (m : Int)));rw [ht] at hI hl ⊢;have c1 := fun w => cat2 (P := Tryz.prog) [110, 111, 114, 116, 104, 32] t (by decide) (by omega) w;have c2 := fun w => cat2 (P := Tryz.prog) ([110, 111, 114, 116, 104, 32] ++ t) [32, 119, 101, 115, 116] (by simp; omega) (by decide) w;have hfin : ∀ W, Below w.heap.size w W -> (Ending.returned (.string ⟨([110, 111, 114, 116, 104, 32] ++ t ++ [32, 119, 101, 115, 116]).toArray⟩) = .returned (sv (Cs.wNorth ++ [32] ++ t ++ [32] ++ Cs.wWest)) /\ Below w.heap.size w W) := fun W h => ⟨by rw [y06]; simp [Cs.wNorth, Cs.wWest], h⟩;have hd2 : ((m : Int) % 90 == 0) = false := beq_eq_false_iff_ne.2 (by omega);have hm0 : (m : Int) < 360 := by have := (Cs.y0M d).2; omega
 have g0 : 90 <= (m : Int) := by omega
 have g1 : 180 <= (m : Int) := by omega
 have g2 : 270 <= (m : Int) := by omega
 obtain ⟨x1, hx1⟩ := zE (([110, 111, 114, 116, 104, 32] ++ t : Cs.Bs));rw [hx1] at c1 c2 hfin;obtain ⟨x2, hx2⟩ := zE ((x1 ++ [32, 119, 101, 115, 116] : Cs.Bs));rw [hx2] at c2 hfin;have HN := jQ hN;have HI := jQ hI;have HF := jQ hfin;have HE := jQ hE;clear hN hI hfin hm ht hx1 hx2 hE hl;go_enter Tryz.func285, Tryz.ntmps285;go_wp2_with (go_at_call 119; refine (HN.o _).mono ?_; rintro e w' ⟨rfl, rfl⟩);refine (HI.o _ HE.o).mono ?_;rintro e w1 ⟨rfl, hb1⟩;rw [y06];go_wp2_with fail;go_ret;exact HF.o _ hb1
theorem yAS {d : Int} {m : Nat} (hm : Cs.norm d = m) (h0 : ¬ m % 90 = 0) :
  (m < 90 -> Cs.quadF d = Cs.wNorth ++ [32] ++ Lib.itoa (m : Int) ++ [32] ++ Cs.wEast) /\ (90 <= m -> m < 180 -> Cs.quadF d = Cs.wSouth ++ [32] ++ Lib.itoa (180 - (m : Int)) ++ [32] ++ Cs.wEast) /\
  (180 <= m -> m < 270 -> Cs.quadF d = Cs.wSouth ++ [32] ++ Lib.itoa ((m : Int) - 180) ++ [32] ++ Cs.wWest) /\ (270 <= m -> Cs.quadF d = Cs.wNorth ++ [32] ++ Lib.itoa (360 - (m : Int)) ++ [32] ++ Cs.wWest) := by
 have hj : ∀ a b c : Cs.Bs, Lib.join [a, b, c] [32] = a ++ [32] ++ b ++ [32] ++ c := fun a b c => by rw [Lib.join_cons]; simp [Lib.joinTail]
 unfold Cs.quadF Cs.quadW;rw [hm];refine ⟨fun h => ?_, fun h1 h2 => ?_, fun h1 h2 => ?_, fun h => ?_⟩
 ·rw [if_neg (by omega), if_pos (by omega), hj]
 ·rw [if_neg (by omega), if_neg (by omega), if_pos (by omega), hj]
 ·rw [if_neg (by omega), if_neg (by omega), if_neg (by omega), if_pos (by omega), hj]
 rw [if_neg (by omega), if_neg (by omega), if_neg (by omega), if_neg (by omega), hj]
theorem yAR {d : Int} {m : Nat} (hm : Cs.norm d = m) (h0 : m % 90 = 0) : Cs.quadF d = Cs.quarters[m / 90]?.getD [] := by
 unfold Cs.quadF Cs.quadW;rw [hm, if_pos (by omega), Lib.join_one];congr 1
theorem y5W (d : Int) (w : World) (hE : Env w) :
  Calls Tryz.prog 285 #[.int .i64 d] w fun e w' => e = .returned (sv (Cs.quadF d)) /\ Below w.heap.size w w' := by
 obtain ⟨n0, n1⟩ := Cs.y0M d;obtain ⟨m, hm⟩ : ∃ m : Nat, Cs.norm d = m := ⟨(Cs.norm d).toNat, by omega⟩;by_cases h0 : m % 90 = 0
 ·rw [yAR hm h0];have hN := fun w => y0s d w;rw [hm] at hN n1;have h4 : m = 0 ∨ m = 90 ∨ m = 180 ∨ m = 270 := by omega
  have HN := jQ hN;have HB := jQ fun o => (Below.refl w.heap.size w).alloc (Nat.le_refl _) o;clear hN hm h0 hE n0 n1;rcases h4 with rfl | rfl | rfl | rfl
  all_goals
   go_enter Tryz.func285, Tryz.ntmps285;go_wp2_with (first | (go_at_call 119; refine (HN.o _).mono ?_; rintro e w' ⟨rfl, rfl⟩) | (go_at_call 305; go_in));go_ret;exact ⟨rfl, HB.o _⟩
 obtain ⟨q1, q2, q3, q4⟩ := yAS hm h0;rcases (show m < 90 ∨ (90 < m /\ m < 180) ∨ (180 < m /\ m < 270) ∨ (270 < m /\ m < 360) by omega) with h | ⟨h, h'⟩ | ⟨h, h'⟩ | ⟨h, h'⟩
 ·rw [q1 h]; exact yAT d m hm h0 h w hE
 ·rw [q2 (by omega) h']; exact yAU d m hm h0 h h' w hE
 ·rw [q3 (by omega) h']; exact yAV d m hm h0 h h' w hE
 rw [q4 (by omega)]; exact yAW d m hm h0 h h' w hE
end

section
open Go.RowKit
theorem y0i {c : Code} {P : Program} {Q : Exit -> Act -> World -> Prop} {a : Act} {W : World} (S : World -> Prop) (h : S W) (k : ∀ W', S W' -> c.wp P Q a W') : c.wp P Q a W := k W h
theorem y0D {W : World} {g : Nat} {z : Dd.Ca} (h : Bk W g 48 #[.int .u8 z.k, .int .i64 z.l, .int .i64 z.o, .int .i64 z.a, .int .i64 z.b, .int .i64 z.s, .int .i64 z.e, .int .i64 z.c.b, .int .i64 z.c.n, .int .i64 z.c.l, .int .i64 z.c.y, .int .i64 z.c.w, .int .i64 z.c.s]) :
  (((W.cell? ⟨g, 0, none⟩ = some (.int .u8 z.k) /\ W.cell? ⟨g, 1, none⟩ = some (.int .i64 z.l) /\ W.cell? ⟨g, 2, none⟩ = some (.int .i64 z.o)) /\ (W.cell? ⟨g, 3, none⟩ = some (.int .i64 z.a) /\ W.cell? ⟨g, 4, none⟩ = some (.int .i64 z.b) /\ W.cell? ⟨g, 5, none⟩ = some (.int .i64 z.s))) /\ (W.cell? ⟨g, 6, none⟩ = some (.int .i64 z.e) /\ W.cell? ⟨g, 7, none⟩ = some (.int .i64 z.c.b) /\ W.cell? ⟨g, 8, none⟩ = some (.int .i64 z.c.n)) /\ (W.cell? ⟨g, 9, none⟩ = some (.int .i64 z.c.l) /\ W.cell? ⟨g, 10, none⟩ = some (.int .i64 z.c.y) /\ W.cell? ⟨g, 11, none⟩ = some (.int .i64 z.c.w) /\ W.cell? ⟨g, 12, none⟩ = some (.int .i64 z.c.s))) /\ g < W.heap.size :=
 ⟨⟨⟨⟨(h.cell 0).trans rfl, (h.cell 1).trans rfl, (h.cell 2).trans rfl⟩, (h.cell 3).trans rfl, (h.cell 4).trans rfl, (h.cell 5).trans rfl⟩, ⟨(h.cell 6).trans rfl, (h.cell 7).trans rfl, (h.cell 8).trans rfl⟩, (h.cell 9).trans rfl, (h.cell 10).trans rfl, (h.cell 11).trans rfl, (h.cell 12).trans rfl⟩, h.lt⟩
end
end Go.Proofs.YtccikcpcfdjobaaGreatDoor
