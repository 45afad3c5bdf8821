/-
  What the claims of layer deed need of the texts Shelf3, DSrc, DBap, DPr0, DPr.
-/
import Derived.Shelf.Strings.Builder1
import Derived.Shelf.Strings.Builder2
import Derived.Shelf.Strings.OnBuilder
import Derived.Shelf.Small.Bits
import Derived.Shelf.Strings.BuilderF
import Derived.Shelf.Strings.BuilderK
import Derived.Shelf.Utf8.RuneCount
import Derived.Shelf.Strings.Builder2Cap
import Derived.Shelf.Strconv.Atoi
import Derived.Shelf.Strconv.Itoa0
import Derived.Shelf.Strconv.Itoa1
import Derived.Shelf.LaysM
import Derived.Shelf.Strconv.Itoa2
import Derived.Shelf.Strconv.Itoa3
import Derived.Shelf.Strconv.AtoiErrFast
import Derived.Shelf.Strconv.ParseIntEmpty
import Derived.Shelf.Strconv.AtoiFail
import Derived.Shelf.Strconv.Clone
import Derived.Shelf.Strconv.SyntaxError
import Derived.Shelf.LaysC
import Derived.Shelf.Strconv.ToError
import Derived.Shelf.Strconv.Lower
import Derived.Shelf.Strconv.ParseUint10
import Derived.Shelf.Strconv.ParseUint10Empty
import Derived.Shelf.Strconv.ParseUint10Any
import Derived.Shelf.Strconv.ParseInt10
import Derived.Shelf.Strconv.AtoiLong
import Derived.Shelf.Strconv.AtoiInnerAll
import Derived.Shelf.Strconv.RangeError
import Derived.Shelf.Strconv.ToErrorRange
import Derived.Shelf.Strconv.AtoiAll
import Derived.Shelf.Strconv.ErrVarAll
import Derived.Shelf.Strings.Search1
import Derived.Shelf.Strings.Search2
import Derived.Shelf.Strings.Search3
import Derived.Shelf.Strings.Cut
import Derived.Shelf.Strings.Count
import Derived.Shelf.Strings.Shaped
import Derived.Shelf.Sort.Plain
import Derived.Shelf.Strings.Split
import Derived.Shelf.Strings.SplitShaped
import Derived.Shelf.Unicode.Decode
import Derived.Shelf.Strings.RuneCount
import Derived.Shelf.Strings.Explode
import Derived.Shelf.Unicode.DecodeSlow
import Derived.Shelf.Unicode.DecodeAny
import Derived.Shelf.Strings.FieldsFuncAny
import Derived.Shelf.Strings.BuilderCap
import Derived.Shelf.Slices.Turned
import Derived.Ground.Names2Prog
import Derived.Shelf.Slices.SearchI
import Derived.Shelf.Slices.In.SortNone
import Derived.Ground.SlgfProg
import Derived.Shelf.SlicesE.IndexFunc
import Derived.Lib.ItoaLen
import Derived.Deep.RegionHeld3
import Derived.Test.YtccikcpcfdjobaaGreatDoorProg
import Derived.Test.YtccikcpcfdjobaaGreatDoorBr06
import Derived.Test.YtccikcpcfdjobaaGreatDoorBr04
import Derived.Test.YtccikcpcfdjobaaGreatDoorBr15
import Derived.Test.YtccikcpcfdjobaaGreatDoorBr17
import Derived.Test.YtccikcpcfdjobaaGreatDoorBr07
import Derived.Test.YtccikcpcfdjobaaGreatDoorBr26
import Derived.Test.YtccikcpcfdjobaaGreatDoorBz
set_option linter.unusedVariables false
set_option linter.unusedSimpArgs false
set_option maxHeartbeats 8000000
set_option maxRecDepth 100000
namespace Go.Proofs
open Go.Shelf
def Tryz.laysB_ren : Go.Shelf.Ren := ⟨fun | 156 => 139 | 165 => 190 | 166 => 141 | 169 => 143 | 240 => 192 | 241 => 223 | 276 => 228 | 277 => 252 | 167 => 142 | n => n, fun | 31 => 23 | 9 => 9 | 3 => 3 | 4 => 4 | 0 => 0 | 20 => 20 | 72 => 171 | 76 => 174 | 70 => 168 | 37 => 169 | 75 => 173 | 127 => 217 | 164 => 247 | 5 => 5 | 80 => 177 | n => n, fun | n => n⟩
theorem Tryz.laysB166 : Go.Proofs.Lays.n166 Tryz.prog Tryz.laysB_ren := {
 mixed := by kernel_rfl
 f166 := Tryz.func141.trans (congrArg some (by kernel_rfl))
 f240 := Tryz.func192.trans (congrArg some (by kernel_rfl))
 f276 := Tryz.func228.trans (congrArg some (by kernel_rfl))
 t0 := Tryz.underlying0
 a0 := Tryz.isAgg0
 z0 := Tryz.sizeOf0
 v0 := Tryz.zeroValue0
 t3 := Tryz.underlying3
 a3 := Tryz.isAgg3
 z3 := Tryz.sizeOf3
 v3 := Tryz.zeroValue3
 t4 := Tryz.underlying4
 a4 := Tryz.isAgg4
 z4 := Tryz.sizeOf4
 v4 := Tryz.zeroValue4
 t9 := Tryz.underlying9
 a9 := Tryz.isAgg9
 z9 := Tryz.sizeOf9
 v9 := Tryz.zeroValue9
 t20 := Tryz.underlying20
 a20 := Tryz.isAgg20
 z20 := Tryz.sizeOf20
 v20 := Tryz.zeroValue20
 t37 := Tryz.underlying169
 a37 := Tryz.isAgg169
 z37 := Tryz.sizeOf169
 v37 := Tryz.zeroValue169
 t70 := Tryz.underlying168
 a70 := Tryz.isAgg168
 z70 := Tryz.sizeOf168
 v70 := Tryz.zeroValue168
 t72 := Tryz.underlying171
 a72 := Tryz.isAgg171
 z72 := Tryz.sizeOf171
 v72 := Tryz.zeroValue171
 t75 := Tryz.underlying173
 a75 := Tryz.isAgg173
 z75 := Tryz.sizeOf173
 v75 := Tryz.zeroValue173
 t164 := Tryz.underlying247
 a164 := Tryz.isAgg247
 z164 := Tryz.sizeOf247
 v164 := Tryz.zeroValue247 }
theorem Tryz.laysB167 : Go.Proofs.Lays.n167 Tryz.prog Tryz.laysB_ren := {
 mixed := by kernel_rfl
 f167 := Tryz.func142.trans (congrArg some (by kernel_rfl))
 f240 := Tryz.func192.trans (congrArg some (by kernel_rfl))
 f276 := Tryz.func228.trans (congrArg some (by kernel_rfl))
 t0 := Tryz.underlying0
 a0 := Tryz.isAgg0
 z0 := Tryz.sizeOf0
 v0 := Tryz.zeroValue0
 t4 := Tryz.underlying4
 a4 := Tryz.isAgg4
 z4 := Tryz.sizeOf4
 v4 := Tryz.zeroValue4
 t5 := Tryz.underlying5
 a5 := Tryz.isAgg5
 z5 := Tryz.sizeOf5
 v5 := Tryz.zeroValue5
 t9 := Tryz.underlying9
 a9 := Tryz.isAgg9
 z9 := Tryz.sizeOf9
 v9 := Tryz.zeroValue9
 t20 := Tryz.underlying20
 a20 := Tryz.isAgg20
 z20 := Tryz.sizeOf20
 v20 := Tryz.zeroValue20
 t37 := Tryz.underlying169
 a37 := Tryz.isAgg169
 z37 := Tryz.sizeOf169
 v37 := Tryz.zeroValue169
 t70 := Tryz.underlying168
 a70 := Tryz.isAgg168
 z70 := Tryz.sizeOf168
 v70 := Tryz.zeroValue168
 t72 := Tryz.underlying171
 a72 := Tryz.isAgg171
 z72 := Tryz.sizeOf171
 v72 := Tryz.zeroValue171
 t75 := Tryz.underlying173
 a75 := Tryz.isAgg173
 z75 := Tryz.sizeOf173
 v75 := Tryz.zeroValue173
 t164 := Tryz.underlying247
 a164 := Tryz.isAgg247
 z164 := Tryz.sizeOf247
 v164 := Tryz.zeroValue247 }
theorem Tryz.laysB169 : Go.Proofs.Lays.n169 Tryz.prog Tryz.laysB_ren := {
 mixed := by kernel_rfl
 f169 := Tryz.func143.trans (congrArg some (by kernel_rfl))
 t0 := Tryz.underlying0
 a0 := Tryz.isAgg0
 z0 := Tryz.sizeOf0
 v0 := Tryz.zeroValue0
 t3 := Tryz.underlying3
 a3 := Tryz.isAgg3
 z3 := Tryz.sizeOf3
 v3 := Tryz.zeroValue3
 t9 := Tryz.underlying9
 a9 := Tryz.isAgg9
 z9 := Tryz.sizeOf9
 v9 := Tryz.zeroValue9
 t37 := Tryz.underlying169
 a37 := Tryz.isAgg169
 z37 := Tryz.sizeOf169
 v37 := Tryz.zeroValue169
 t70 := Tryz.underlying168
 a70 := Tryz.isAgg168
 z70 := Tryz.sizeOf168
 v70 := Tryz.zeroValue168
 t72 := Tryz.underlying171
 a72 := Tryz.isAgg171
 z72 := Tryz.sizeOf171
 v72 := Tryz.zeroValue171
 t127 := Tryz.underlying217
 a127 := Tryz.isAgg217
 z127 := Tryz.sizeOf217
 v127 := Tryz.zeroValue217 }
theorem Tryz.Builder_ExtraB : Builder.Extra Tryz.prog Tryz.laysB_ren := {
 sizeBuilder := by kernel_rfl
 liesBuilder := by kernel_rfl
 t5 := Tryz.underlying5
 a5 := Tryz.isAgg5
 z5 := Tryz.sizeOf5
 v5 := Tryz.zeroValue5
 infoByte := by kernel_rfl
 cellsByte := by kernel_rfl
 sizeByte := by kernel_rfl
 neB5 := by decide }
open Go.RowKit Go.Sort Go.Lib in
theorem Tryz.Builder_WriteString (B b : Nat) (bs : List Value) (s : ByteArray) (w : World) (h : Lib.IsBuilder 171 5 B b bs w) (hlen : bs.length + s.size ≤ 140737488355328) (hBw : B ≤ w.heap.size) :
  Calls Tryz.prog 141 #[.pointer (some ⟨b, 0, none⟩), .string s] w fun e w' => e = .returned (.tuple #[.int .i64 s.size, .nilIface]) ∧ (Lib.BuilderAt 171 5 B b (.pointer (some ⟨b, 0, none⟩)) (bs ++ Lib.strCells s) w' ∧ Below B w w') := Any.Builder_WriteString Tryz.laysB166 Tryz.Builder_ExtraB B b bs s w h hlen hBw
open Go.RowKit Go.Sort Go.Lib in
theorem Tryz.Builder_WriteByte (B b : Nat) (bs : List Value) (c : Int) (w : World) (h : Lib.IsBuilder 171 5 B b bs w) (hlen : bs.length + 1 ≤ 140737488355328) (hBw : B ≤ w.heap.size) :
  Calls Tryz.prog 142 #[.pointer (some ⟨b, 0, none⟩), .int .u8 c] w fun e w' => e = .returned .nilIface ∧ (Lib.BuilderAt 171 5 B b (.pointer (some ⟨b, 0, none⟩)) (bs ++ [.int .u8 c]) w' ∧ Below B w w') := Any.Builder_WriteByte Tryz.laysB167 Tryz.Builder_ExtraB B b bs c w h hlen hBw
open Go.RowKit Go.Sort Go.Lib in
theorem Tryz.Builder_String_any (B b : Nat) (l : List UInt8) (w : World) (h : Lib.IsBuilder 171 5 B b (Lib.byteCells l) w) (hBw : B ≤ w.heap.size) :
  Calls Tryz.prog 143 #[.pointer (some ⟨b, 0, none⟩)] w fun e w' => e = .returned (.string ⟨l.toArray⟩) ∧ Below B w w' := Any.Builder_String_any Tryz.laysB169 Tryz.Builder_ExtraB B b l w h hBw
end Go.Proofs

namespace Go.Proofs.YtccikcpcfdjobaaGreatDoor
section
open Go.RowKit
theorem Dd.srcF_snoc (l : List Dd.Bs) (x : Dd.Bs) : Dd.srcF (l ++ [x]) = Dd.srcF l ++ x ++ [10] := by
 unfold Dd.srcF
 rw [List.flatMap_append]
 simp
theorem Dd.srcF_le (l : List Dd.Bs) (k : Nat) : (Dd.srcF (l.take k)).length ≤ (Dd.srcF l).length := by
 have h : Dd.srcF l = Dd.srcF (l.take k) ++ Dd.srcF (l.drop k) := by
  unfold Dd.srcF
  rw [← List.flatMap_append, List.take_append_drop]
 rw [h, List.length_append]
 omega
theorem byteCells_app (a b : List UInt8) : Lib.byteCells (a ++ b) = Lib.byteCells a ++ Lib.byteCells b := by simp [Lib.byteCells]
theorem source_any (A : Option Addr) (c : Nat) (ls : List Cs.Bs) (w : World) (hR : Rd w w.heap.size 1 A ls.length (wcells ls)) (hn : ls.length ≤ 1000000) (hl : (Dd.srcF ls).length ≤ 1000000000) :
  Calls Tryz.prog 92 #[.slice A ls.length c] w fun e w' => e = .returned (sv (Dd.srcF ls)) ∧ Below w.heap.size w w' := by
 have HR := jQ hR
 have HL := jQ hl
 have HWS := jQ (fun (bs : List Value) (s : Cs.Bs) W h1 h2 h3 => Tryz.Builder_WriteString w.heap.size w.heap.size bs ⟨s.toArray⟩ W h1 h2 h3)
 have HWB := jQ (fun (bs : List Value) W h1 h2 h3 => Tryz.Builder_WriteByte w.heap.size w.heap.size bs 10 W h1 h2 h3)
 have HST := jQ (fun (l : Cs.Bs) W h1 h2 => Tryz.Builder_String_any w.heap.size w.heap.size l W h1 h2)
 have hb0 := (Below.refl w.heap.size w).alloc (Nat.le_refl _) (.cells #[.pointer none, .slice none 0 0] 171)
 have hi0 : Lib.IsBuilder 171 5 w.heap.size w.heap.size (Lib.byteCells []) (w.alloc (.cells #[.pointer none, .slice none 0 0] 171)) :=
  .inl ⟨Nat.le_refl _, .slice none 0 0, World.alloc_heap_new w _, World.ownsRow_nil _ _ _ _, by simp [Value.ownBlock]⟩
 have HB0 := jQ hb0
 have HI0 := jQ hi0
 clear hR hl hb0 hi0
 go_enter Tryz.func92, Tryz.ntmps92
 go_wp2_with fail
 go_loopw [8] (fun I wr => ∃ k : Nat, k ≤ ls.length ∧ I = .int .i64 k ∧ Lib.IsBuilder 171 5 w.heap.size w.heap.size (Lib.byteCells (Dd.srcF (ls.take k))) wr ∧ Below w.heap.size w wr) (fun I _ => ls.length - (intOf I).toNat)
 case atStart => exact ⟨0, Nat.zero_le _, rfl, HI0.o, HB0.o⟩
 case round =>
  clear HB0 HI0
  obtain ⟨k, hk, rfl, hI, hB⟩ := hrel
  have HI := jQ hI
  have HB := jQ hB
  clear hI hB
  by_cases hlt : k < ls.length
  ·obtain ⟨b, off, rfl, hb, hc⟩ := (HR.o.below HB.o (Nat.le_refl _)).2 (by omega)
   have e0 := hc k (by omega)
   obtain ⟨x, hx⟩ : ∃ x, ls[k] = x := ⟨_, rfl⟩
   rw [show (wcells ls)[k]? = some (.string ⟨x.toArray⟩) by simp [wcells, hlt, hx, sv]] at e0
   have hb2 : b < wr.heap.size := Nat.lt_of_lt_of_le hb HB.o.size
   have hki : (k : Int) < (ls.length : Int) := by omega
   have hle := Dd.srcF_le ls (k + 1)
   have hsn : Dd.srcF (ls.take (k + 1)) = Dd.srcF (ls.take k) ++ x ++ [10] := by rw [List.take_succ_eq_append_getElem hlt, hx, Dd.srcF_snoc]
   have hl := HL.o
   obtain ⟨p, hp⟩ : ∃ p, Dd.srcF (ls.take k) = p := ⟨_, rfl⟩
   rw [hsn, hp] at hle
   rw [hp] at HI hsn
   simp only [List.length_append, List.length_singleton] at hle
   have c1 := HWS.o (Lib.byteCells p) x wr HI.o (by rw [Lib.byteCells_length]; simp [ByteArray.size]; omega) HB.o.size
   have hcat : Lib.byteCells p ++ Lib.strCells ⟨x.toArray⟩ = Lib.byteCells (p ++ x) := by simp [Lib.byteCells, Lib.strCells]
   rw [hcat] at c1
   have C1 := jQ c1
   have HSN := jQ hsn
   have C2 := jQ (fun W h1 h3 => HWB.o (Lib.byteCells (p ++ x)) W h1 (by rw [Lib.byteCells_length, List.length_append]; omega) h3)
   clear hc hx hp hsn hle hl c1 hcat
   go_wp2_with fail
   refine C1.o.mono ?_
   rintro e w1 ⟨rfl, hi1, hb1⟩
   have HB1 := jQ (HB.o.trans hb1)
   have HI1 := jQ hi1
   clear hb1 hi1 e0
   go_wp2_with fail
   refine (C2.o _ (.inr HI1.o) HB1.o.size).mono ?_
   rintro e w2 ⟨rfl, hi2, hb2⟩
   have HB2 := jQ (HB1.o.trans hb2)
   have HI2 := jQ hi2
   clear hb2 hi2
   go_wp2_with fail
   go_roundw
   case rel =>
    refine ⟨k + 1, by omega, by go_num, ?_, HB2.o⟩
    rw [HSN.o, byteCells_app]
    exact .inr HI2.o
   case measure => simp [intOf]; omega
  ·obtain rfl : k = ls.length := by omega
   have hI := HI.o
   rw [List.take_length] at hI
   have HE := jQ (HST.o (Dd.srcF ls) wr hI HB.o.size)
   clear hI
   go_wp2_with fail
   refine HE.o.mono ?_
   rintro e w1 ⟨rfl, hb1⟩
   have HB1 := jQ (HB.o.trans hb1)
   clear hb1
   go_wp2_with fail
   go_ret
   exact ⟨rfl, HB1.o⟩
theorem said_any (A : Option Addr) (c : Nat) (ws : List Cs.Bs) (w : World) (hR : Rd w w.heap.size 1 A ws.length (wcells ws)) (hc : ws.length ≤ c) (hn : ws.length ≤ 1000000) (hl : ∀ x ∈ ws, x.length ≤ 1000000) :
  Calls Tryz.prog 90 #[.slice A ws.length c] w fun e w' => e = .returned (sv (Dd.saidF ws)) ∧ Below w.heap.size w w' := by
 have J := jQ (join_any A c ws w hR hc hn hl)
 clear hR hc hn hl
 go_enter Tryz.func90, Tryz.ntmps90
 go_wp2_with fail
 refine J.o.mono ?_
 rintro e w1 ⟨rfl, hb⟩
 have HB := jQ hb
 clear hb
 rw [sv_def]
 go_wp2_with fail
 go_ret
 exact ⟨rfl, HB.o⟩
end

section
namespace Dd
open Cs (Wd)
theorem said_fields {ws : List Bs} (hne : ws ≠ []) (h : ∀ x ∈ ws, Wl x) : fieldsF (saidF ws) = ws ∧ (10 : UInt8) ∉ saidF ws := ⟨fields_said hne h, said_line h⟩
theorem fieldG_step {f g : Fd} {l : Bs} {r : List Bs} {k : Int} (hne : fieldsF l ≠ []) (h : lineF f (fieldsF l) = (0, g)) : fieldG f (l :: r) k = fieldG g r (k + 1) := by
 rw [fieldG, if_neg hne, h]
 simp
theorem st_line {n : Bs} {x : Int} (hn : nameF n = true) : fieldsF (saidF [kStation, n, Lib.itoa x]) = [kStation, n, Lib.itoa x] ∧ (10 : UInt8) ∉ saidF [kStation, n, Lib.itoa x] := by
 refine said_fields (by simp) fun w hw => ?_
 simp only [List.mem_cons, List.not_mem_nil, or_false] at hw
 rcases hw with rfl | rfl | rfl
 ·exact wl_of (by decide)
 ·exact name_wl hn
 ·exact itoa_wl _
theorem li_line {n : Bs} (hn : nameF n = true) : fieldsF (saidF [kLimit, n]) = [kLimit, n] ∧ (10 : UInt8) ∉ saidF [kLimit, n] := by
 refine said_fields (by simp) fun w hw => ?_
 simp only [List.mem_cons, List.not_mem_nil, or_false] at hw
 rcases hw with rfl | rfl
 ·exact wl_of (by decide)
 ·exact name_wl hn
theorem pa_line {n s a b : Bs} (hn : nameF n = true) (hs : nameF s = true) (ha : nameF a = true) (hb : nameF b = true) : fieldsF (saidF [kParcel, n, s, a, b]) = [kParcel, n, s, a, b] ∧ (10 : UInt8) ∉ saidF [kParcel, n, s, a, b] := by
 refine said_fields (by simp) fun w hw => ?_
 simp only [List.mem_cons, List.not_mem_nil, or_false] at hw
 rcases hw with rfl | rfl | rfl | rfl | rfl
 ·exact wl_of (by decide)
 ·exact name_wl hn
 ·exact name_wl hs
 ·exact name_wl ha
 ·exact name_wl hb
theorem va_line (y e : Int) : fieldsF (saidF [kVariation, Lib.itoa y, Lib.itoa e]) = [kVariation, Lib.itoa y, Lib.itoa e] ∧ (10 : UInt8) ∉ saidF [kVariation, Lib.itoa y, Lib.itoa e] := by
 refine said_fields (by simp) fun w hw => ?_
 simp only [List.mem_cons, List.not_mem_nil, or_false] at hw
 rcases hw with rfl | rfl | rfl
 ·exact wl_of (by decide)
 ·exact itoa_wl _
 ·exact itoa_wl _
theorem G_pa {f : Fd} (hf : fieldE f = 0) (rest : List Bs) : ∀ (l pre : List Pa) (k : Int), (∀ p ∈ l, nameF p.name = true ∧ paOk f p = true) →
    fieldG ⟨f.st, f.li, pre, []⟩ (l.map (fun p => saidF [kParcel, p.name, liAt f p.south, stAt f p.west, stAt f p.east]) ++ rest) k = fieldG ⟨f.st, f.li, pre ++ l, []⟩ rest (k + l.length)
  | [], pre, k, _ => by simp
  | p :: r, pre, k, h => by
    obtain ⟨h1, h2⟩ := h p List.mem_cons_self
    unfold paOk at h2
    simp only [Bool.and_eq_true] at h2
    obtain ⟨⟨i1, i2⟩, i3⟩ := h2
    have i1' := i1
    simp only [isIx, decide_eq_true_eq] at i1'
    have i4 : isIx p.south f.li.length = true := by simp only [isIx, decide_eq_true_eq]; omega
    obtain ⟨s1, s2⟩ := li_idx hf i4
    obtain ⟨w1, w2⟩ := st_idx hf i2
    obtain ⟨e1, e2⟩ := st_idx hf i3
    have i2' := i2
    have i3' := i3
    simp only [isIx, decide_eq_true_eq] at i2' i3'
    have hl := pa_line h1 s2 w2 e2
    rw [List.map_cons, List.cons_append, fieldG_step (g := ⟨f.st, f.li, pre ++ [p], []⟩) (by rw [hl.1]; simp) ?_, G_pa hf rest r (pre ++ [p]) (k + 1) (fun x hx => h x (List.mem_cons_of_mem _ hx))]
    · congr 1
      · simp
      · simp; omega
    · rw [hl.1]
      have q1 : (kParcel = kStation) = False := by simp [kParcel, kStation]
      have q2 : (kParcel = kLimit) = False := by simp [kParcel, kLimit]
      unfold lineF parcelL
      simp only [q1, q2, if_false, if_true, h1, s2, w2, e2, Bool.and_self, s1, w1, e1]
      rw [if_neg (by omega), if_pos (by omega)]
theorem vars_range : ∀ (l : List (Int × Int)) (b : Int), 0 ≤ b → Cs.okV b l = true → ∀ v ∈ l, (0 ≤ v.1 ∧ v.1 ≤ 3000) ∧ -60 ≤ v.2 ∧ v.2 ≤ 60
  | [], _, _, _, v, hv => by cases hv
  | (y, e) :: r, b, hb, h, v, hv => by
    rw [Cs.okV] at h
    simp only [Bool.and_eq_true, decide_eq_true_eq] at h
    rcases List.mem_cons.1 hv with rfl | hv
    · dsimp only; omega
    · exact vars_range r y (by omega) h.2 v hv
theorem vars_ok {vs : List (Int × Int)} (h : Cs.varsE vs = 0) : vs.length ≤ 40 ∧ Cs.okV 0 vs = true := by
 unfold Cs.varsE at h
 split at h
 ·omega
 ·split at h
  ·exact ⟨by omega, by assumption⟩
  ·omega
theorem join_le (ws : List Bs) (L : Nat) (h : ∀ x ∈ ws, x.length ≤ L) : (Lib.join ws [32]).length ≤ ws.length * (L + 1) := by
  have ht : ∀ r : List Bs, (∀ x ∈ r, x.length ≤ L) → (Lib.joinTail [32] r).length ≤ r.length * (L + 1) := by
    intro r
    induction r with
    | nil => intro _; simp [Lib.joinTail]
    | cons y t ih =>
      intro h
      have h1 := h y List.mem_cons_self
      have h2 := ih (fun x hx => h x (List.mem_cons_of_mem _ hx))
      rw [show Lib.joinTail [32] (y :: t) = 32 :: (y ++ Lib.joinTail [32] t) by simp [Lib.joinTail]]
      simp only [List.length_cons, List.length_append, Nat.succ_mul]
      omega
  cases ws with
  | nil => simp [Lib.join]
  | cons x r =>
    have h1 := h x List.mem_cons_self
    have h2 := ht r (fun y hy => h y (List.mem_cons_of_mem _ hy))
    rw [Lib.join_cons, List.length_append, List.length_cons, Nat.succ_mul]
    omega
theorem src_le (ls : List Bs) (L : Nat) (h : ∀ x ∈ ls, x.length ≤ L) : (srcF ls).length ≤ ls.length * (L + 1) := by
  induction ls with
  | nil => simp [srcF]
  | cons x r ih =>
    have h1 := h x List.mem_cons_self
    have h2 := ih (fun y hy => h y (List.mem_cons_of_mem _ hy))
    have e : srcF (x :: r) = x ++ 10 :: srcF r := by simp [srcF]
    rw [e, List.length_append, List.length_cons, List.length_cons, Nat.succ_mul]
    omega
theorem name_le {s : Bs} (h : nameF s = true) : s.length ≤ 24 := by
 unfold nameF at h
 simp only [Bool.and_eq_true, decide_eq_true_eq] at h
 exact h.1.1
theorem itoa_le {n : Int} (h0 : -999999999 ≤ n) (h1 : n ≤ 999999999) : (Lib.itoa n).length ≤ 24 := Nat.le_trans (Lib.itoa_length_le n (by omega) (by omega)) (by decide)
theorem five_le {ws : List Bs} (h5 : ws.length ≤ 5) (h : ∀ x ∈ ws, x.length ≤ 24) : (saidF ws).length ≤ 125 := by
 have := join_le ws 24 h
 have := Nat.mul_le_mul_right 25 h5
 unfold saidF
 omega
theorem field_wlines {f : Fd} (h : fieldE f = 0) : (∀ x ∈ fieldW f, (10 : UInt8) ∉ x ∧ x.length ≤ 125) ∧ (fieldW f).length ≤ 102 := by
 obtain ⟨h1, h2, h3, h4, h5, h6, h7, h8, h9, h10⟩ := field_facts h
 obtain ⟨v1, v2⟩ := vars_ok h6
 have vr := vars_range f.va 0 (by decide) v2
 unfold namesF at h7
 unfold rangeF at h9
 simp only [Bool.and_eq_true, List.all_eq_true] at h7 h9
 refine ⟨fun x hx => ?_, ?_⟩
 ·unfold fieldW at hx
  simp only [List.mem_append, List.mem_map] at hx
  rcases hx with ((⟨s, hs, rfl⟩ | ⟨n, hn, rfl⟩) | ⟨p, hp, rfl⟩) | ⟨v, hv, rfl⟩
  ·have n1 := h7.1.1 s.1 (List.mem_map.2 ⟨s, hs, rfl⟩)
   have x1 := h9.1 s hs
   simp only [xOk, decide_eq_true_eq] at x1
   refine ⟨(st_line n1).2, five_le (by simp) fun w hw => ?_⟩
   simp only [List.mem_cons, List.not_mem_nil, or_false] at hw
   rcases hw with rfl | rfl | rfl
   ·decide
   ·exact name_le n1
   ·exact itoa_le (by omega) (by omega)
  ·have n1 := h7.1.2 n hn
   refine ⟨(li_line n1).2, five_le (by simp) fun w hw => ?_⟩
   simp only [List.mem_cons, List.not_mem_nil, or_false] at hw
   rcases hw with rfl | rfl
   ·decide
   ·exact name_le n1
  ·have n1 := h7.2 p.name (List.mem_map.2 ⟨p, hp, rfl⟩)
   have x1 := h9.2 p hp
   unfold paOk at x1
   simp only [Bool.and_eq_true] at x1
   obtain ⟨⟨i1, i2⟩, i3⟩ := x1
   simp only [isIx, decide_eq_true_eq] at i1
   have i4 : isIx p.south f.li.length = true := by simp only [isIx, decide_eq_true_eq]; omega
   have s2 := (li_idx h i4).2
   have w2 := (st_idx h i2).2
   have e2 := (st_idx h i3).2
   refine ⟨(pa_line n1 s2 w2 e2).2, five_le (by simp) fun w hw => ?_⟩
   simp only [List.mem_cons, List.not_mem_nil, or_false] at hw
   rcases hw with rfl | rfl | rfl | rfl | rfl
   ·decide
   ·exact name_le n1
   ·exact name_le s2
   ·exact name_le w2
   ·exact name_le e2
  ·have r := vr v hv
   refine ⟨(va_line v.1 v.2).2, five_le (by simp) fun w hw => ?_⟩
   simp only [List.mem_cons, List.not_mem_nil, or_false] at hw
   rcases hw with rfl | rfl | rfl
   ·decide
   ·exact itoa_le (by omega) (by omega)
   ·exact itoa_le (by omega) (by omega)
 ·unfold fieldW
  simp only [List.length_append, List.length_map]
  omega
end Dd
end

section
open Go.RowKit
theorem infoStrP : (Tryz.prog.info? 9).map (fun i => (i.zero, i.size, i.bytes)) = some (some (.string ⟨#[]⟩), 1, 16) := by kernel_rfl
theorem rd_new1 (w : World) (t : TypeId) (vs : List Value) : Rd (w.alloc (.cells vs.toArray t)) (w.alloc (.cells vs.toArray t)).heap.size 1 (some ⟨w.heap.size, 0, none⟩) vs.length vs :=
 ⟨by omega, fun _ => ⟨w.heap.size, 0, rfl, by rw [World.size_alloc]; omega, fun j hj => by
  rw [Nat.zero_add, (Bk.new w t vs.toArray).cell j, List.getElem?_toArray]⟩⟩
theorem wcells_app (a b : List Cs.Bs) : wcells (a ++ b) = wcells a ++ wcells b := List.map_append
theorem wcells_lenP (a : List Cs.Bs) : (wcells a).length = a.length * 1 := by simp [wcells]
theorem wcells_oneP (l : List Cs.Bs) : ∀ u ∈ wcells l, u.oneCell' = true := by
 intro u hu
 simp only [wcells, List.mem_map] at hu
 obtain ⟨x, _, rfl⟩ := hu
 rfl
structure PwP (w : World) (v : Fv) (f : Dd.Fd) (W : World) : Prop where
 fs : Fs w w.heap.size v f W
 env : Env W
theorem PwP.next {w W W' : World} {v : Fv} {f : Dd.Fd} (h : PwP w v f W) (hb : Below W.heap.size W W') : PwP w v f W' := ⟨h.fs.next hb, h.env.step hb⟩
theorem PwP.new {w : World} {v : Fv} {f : Dd.Fd} (hF : FRd w w.heap.size v f) (hE : Env w) : PwP w v f (w.alloc (.cells #[.slice v.a1 f.st.length v.c1, .slice v.a2 f.li.length v.c2, .slice v.a3 f.pa.length v.c3, .slice v.a4 f.va.length v.c4] 27)) :=
 ⟨Fs.new hF, hE.step ((Below.refl _ _).alloc (Nat.le_refl _) _)⟩
structure Pl (w : World) (v : Fv) (f : Dd.Fd) (w1 : World) (V : Value) (ls : List Cs.Bs) (W : World) : Prop where
 pw : PwP w v f W
 own : W.ownsRow w1.heap.size 9 1 V ls.length (wcells ls)
 b : Below w1.heap.size w1 W
theorem Pl.next {w w1 W W' : World} {v : Fv} {f : Dd.Fd} {V : Value} {ls : List Cs.Bs} (h : Pl w v f w1 V ls W) (hb : Below W.heap.size W W') : Pl w v f w1 V ls W' :=
 ⟨h.pw.next hb, own_belowG h.own hb, h.b.trans (hb.mono h.b.size)⟩
theorem Dd.field_short {f : Dd.Fd} (h : Dd.fieldE f = 0) : (Dd.fieldW f).length ≤ 102 ∧ (Dd.srcF (Dd.fieldW f)).length ≤ 1000000000 := by
 obtain ⟨h1, h2⟩ := Dd.field_wlines h
 refine ⟨h2, ?_⟩
 have := Dd.src_le (Dd.fieldW f) 125 (fun x hx => (h1 x hx).2)
 have := Nat.mul_le_mul_right 126 h2
 omega
theorem Dd.field_names {f : Dd.Fd} (h : Dd.fieldE f = 0) : (∀ s ∈ f.st, s.1.length ≤ 24) ∧ (∀ n ∈ f.li, n.length ≤ 24) ∧ (∀ p ∈ f.pa, p.name.length ≤ 24) := by
 obtain ⟨_, _, _, _, _, _, hn, _⟩ := Dd.field_facts h
 simp only [Dd.namesF, Bool.and_eq_true, List.all_eq_true, List.mem_map, forall_exists_index, and_imp, forall_apply_eq_imp_iff₂] at hn
 have key : ∀ x : Dd.Bs, Dd.nameF x = true → x.length ≤ 24 := fun x hx => by
  simp only [Dd.nameF, Bool.and_eq_true, decide_eq_true_eq] at hx
  exact hx.1.1
 exact ⟨fun s hs => key _ (hn.1.1 s hs), fun n hs => key _ (hn.1.2 n hs), fun p hs => key _ (hn.2 p hs)⟩
theorem Dd.field_nums {f : Dd.Fd} (h : Dd.fieldE f = 0) : (∀ s ∈ f.st, 0 ≤ s.2 ∧ s.2 ≤ 100000) ∧ (∀ v ∈ f.va, (0 ≤ v.1 ∧ v.1 ≤ 3000) ∧ -60 ≤ v.2 ∧ v.2 ≤ 60) := by
 obtain ⟨_, _, _, _, _, hv, _, _, hr, _⟩ := Dd.field_facts h
 simp only [Dd.rangeF, Bool.and_eq_true, List.all_eq_true] at hr
 exact ⟨fun s hs => by simpa [Dd.xOk] using hr.1 s hs, Dd.vars_range _ 0 (by omega) (Dd.vars_ok hv).2⟩
end

section
open Go.RowKit
abbrev Ps (w : World) (v : Fv) (f : Dd.Fd) (w1 : World) (V : Value) (ls : List Cs.Bs) (g : Nat) (t : TypeId) (cs : Array Value) (W : World) : Prop := Pl w v f w1 V ls W ∧ Bk W g t cs
theorem Ps.next {w w1 W W' : World} {v : Fv} {f : Dd.Fd} {V : Value} {ls : List Cs.Bs} {g : Nat} {t : TypeId} {cs : Array Value} (h : Ps w v f w1 V ls g t cs W) (hb : Below W.heap.size W W') : Ps w v f w1 V ls g t cs W' := ⟨h.1.next hb, h.2.below hb h.2.lt⟩
set_option maxHeartbeats 16000000 in
theorem PrintField_any (v : Fv) (f : Dd.Fd) (w : World) (hF : FRd w w.heap.size v f) (hE : Env w) :
  Calls Tryz.prog 37 #[fval v f] w fun e w' => e = .returned (sv (Dd.printF f)) ∧ Below w.heap.size w w' := by
 obtain ⟨a1, k1, a2, k2, a3, k3, a4, k4⟩ := v
 have hd : Dd.printF f = if Dd.fieldE f ≠ 0 then [] else Dd.srcF (Dd.fieldW f) := rfl
 have B0 := jQ (fun W (h : PwP w ⟨a1, k1, a2, k2, a3, k3, a4, k4⟩ f W) => checkField_any ⟨a1, k1, a2, k2, a3, k3, a4, k4⟩ f W h.fs.rd)
 have S0 := jQ (PwP.new hF hE)
 simp only [fval_def] at B0 S0 ⊢
 obtain ⟨ef, hef⟩ : ∃ e, Dd.fieldE f = e := ⟨_, rfl⟩
 rw [hef] at B0 hd
 by_cases he : ef = 0
 ·subst he
  rw [if_neg (by simp)] at hd
  obtain ⟨nm1, nm2, nm3⟩ := Dd.field_names hef
  obtain ⟨nn1, nn4⟩ := Dd.field_nums hef
  obtain ⟨hs1, hs2, hs3, hs4, hs5, -, -, -, hrg, -⟩ := Dd.field_facts hef
  obtain ⟨hfl, hfs⟩ := Dd.field_short hef
  have hva : f.va.length ≤ 40 := (Dd.vars_ok (Dd.field_facts hef).2.2.2.2.2.1).1
  simp only [Dd.rangeF, Bool.and_eq_true, List.all_eq_true] at hrg
  have HPO := jQ hrg.2
  have NM1 := jQ nm1
  have NM2 := jQ nm2
  have NM3 := jQ nm3
  have NN1 := jQ nn1
  have NN4 := jQ nn4
  have HFL := jQ hfl
  have HFS := jQ hfs
  obtain ⟨L1, hL1⟩ : ∃ L, f.st.map (fun s => Dd.saidF [Dd.kStation, s.1, Lib.itoa s.2]) = L := ⟨_, rfl⟩
  obtain ⟨L2, hL2⟩ : ∃ L, f.li.map (fun n => Dd.saidF [Dd.kLimit, n]) = L := ⟨_, rfl⟩
  obtain ⟨L3, hL3⟩ : ∃ L, f.pa.map (fun p => Dd.saidF [Dd.kParcel, p.name, Dd.liAt f p.south, Dd.stAt f p.west, Dd.stAt f p.east]) = L := ⟨_, rfl⟩
  obtain ⟨L4, hL4⟩ : ∃ L, f.va.map (fun v => Dd.saidF [Dd.kVariation, Lib.itoa v.1, Lib.itoa v.2]) = L := ⟨_, rfl⟩
  have hW : Dd.fieldW f = L1 ++ L2 ++ L3 ++ L4 := by unfold Dd.fieldW; rw [hL1, hL2, hL3, hL4]
  have hl1 : L1.length = f.st.length := by rw [← hL1, List.length_map]
  have hl2 : L2.length = f.li.length := by rw [← hL2, List.length_map]
  have hl3 : L3.length = f.pa.length := by rw [← hL3, List.length_map]
  have hl4 : L4.length = f.va.length := by rw [← hL4, List.length_map]
  have HL1 := jQ hL1
  have HL2 := jQ hL2
  have HL3 := jQ hL3
  have HL4 := jQ hL4
  have HW := jQ hW
  have HD := jQ hd
  have HN1 := jQ hl1
  have HN2 := jQ hl2
  have HN3 := jQ hl3
  have HN4 := jQ hl4
  have HSD := jQ (fun A c ws W h1 h2 h3 h4 => said_any A c ws W h1 h2 h3 h4)
  have HIT := jQ (fun n W h0 h1 hE => itoa_any n h0 h1 W hE)
  obtain ⟨i0, hi0, hz0, hz1, hz2⟩ := info_parts infoStrP
  clear hF hE hd hef hrg nm1 nm2 nm3 nn1 nn4 hfl hfs hL1 hL2 hL3 hL4 hW hl1 hl2 hl3 hl4 hs1
  obtain ⟨f0, f1, f2, f3, fl⟩ := S0.o.fs.cells
  go_enter Tryz.func37, Tryz.ntmps37
  go_wp2_with fail
  refine (B0.o _ S0.o).mono ?_
  rintro e w1 ⟨rfl, hb⟩
  have S1 := jQ (S0.o.next hb)
  clear hb f0 f1 f2 f3 fl S0
  obtain ⟨f0, f1, f2, f3, fl⟩ := S1.o.fs.cells
  go_wp2_with fail
  clear f0 f1 f2 f3 fl
  go_loopw [3, 18] (fun V I wr => ∃ k : Nat, k ≤ f.st.length ∧ I = .int .i64 k ∧ Pl w ⟨a1, k1, a2, k2, a3, k3, a4, k4⟩ f w1 V (L1.take k) wr) (fun _ I _ => f.st.length - (intOf I).toNat)
  case atStart => exact ⟨0, Nat.zero_le _, rfl, ⟨S1.o, World.ownsRow_nil _ _ _ _, Below.refl _ _⟩⟩
  case round =>
   obtain ⟨k, hk, rfl, hpl⟩ := hrel
   have P0 := jQ hpl
   clear hpl
   by_cases hlt : k < f.st.length
   ·obtain ⟨b, off, hA, hb, e0, e1⟩ := P0.o.pw.fs.rd.st.station hlt
    dsimp only at hA
    subst hA
    have hb2 : b < wr.heap.size := hb
    have hki : (k : Int) < (f.st.length : Int) := by omega
    have nm := NM1.o _ (List.getElem_mem hlt)
    have nn := NN1.o _ (List.getElem_mem hlt)
    obtain ⟨x, hx⟩ : ∃ x, f.st[k] = x := ⟨_, rfl⟩
    rw [hx] at e0 e1 nm nn
    have hln : (L1.take k).length ≤ 1000 := by
     have := HFL.o
     rw [HW.o] at this
     simp only [List.length_append, List.length_take] at this ⊢
     omega
    have hsn : L1.take (k + 1) = (L1.take k) ++ [Dd.saidF [Dd.kStation, x.1, Lib.itoa x.2]] := by
     rw [List.take_succ_eq_append_getElem (by rw [HN1.o]; exact hlt)]
     congr 2
     simp only [← HL1.o, List.getElem_map, hx]
    have HSN := jQ hsn
    clear hsn
    obtain ⟨ls, hls⟩ : ∃ ls, L1.take k = ls := ⟨_, rfl⟩
    rw [hls] at P0 HSN hln
    obtain ⟨n, hnn⟩ : ∃ n, ls.length = n := ⟨_, rfl⟩
    obtain ⟨X, hX⟩ : ∃ X, wcells ls = X := ⟨_, rfl⟩
    rw [hnn] at hln
    have HNX := jQ (And.intro hnn hX)
    have HKL := jQ P0.o.b.size
    clear hls hnn hX
    clear hx
    have hit := Dd.itoa_le (n := x.2) (by omega) (by omega)
    have hbn := (Below.refl wr.heap.size wr).alloc (Nat.le_refl _) (.cells #[.string ⟨x.1.toArray⟩, .int .i64 x.2] 66)
    have hps : Ps w ⟨(some ⟨b, off, none⟩), k1, a2, k2, a3, k3, a4, k4⟩ f w1 u3 ls wr.heap.size 66 #[.string ⟨x.1.toArray⟩, .int .i64 x.2] (wr.alloc (.cells #[.string ⟨x.1.toArray⟩, .int .i64 x.2] 66)) := ⟨P0.o.next hbn, Bk.new _ _ _⟩
    go_upto_region 7 with fail
    refine wp_cutW (fun W => Ps w ⟨(some ⟨b, off, none⟩), k1, a2, k2, a3, k3, a4, k4⟩ f w1 u3 ls wr.heap.size 66 #[.string ⟨x.1.toArray⟩, .int .i64 x.2] W) hps ?_
    obtain ⟨g, hg⟩ : ∃ g, wr.heap.size = g := ⟨_, rfl⟩
    rw [hg]
    clear e0 e1 hb hb2 hbn hps hg P0 HKL
    intro W4 hs
    have S4 := jQ hs
    have HKL := jQ hs.1.b.size
    clear hs
    have HC := jQ (fun U (hp : PwP w ⟨(some ⟨b, off, none⟩), k1, a2, k2, a3, k3, a4, k4⟩ f U) (h : Bk U g 66 #[.string ⟨x.1.toArray⟩, .int .i64 x.2]) => (show U.cell? ⟨g, 0, none⟩ = some (.string ⟨x.1.toArray⟩) ∧ U.cell? ⟨g, 1, none⟩ = some (.int .i64 x.2) from ⟨(h.cell 0).trans rfl, (h.cell 1).trans rfl⟩))
    obtain ⟨x0, x1⟩ := HC.o _ S4.o.1.pw S4.o.2
    have xl := S4.o.2.lt
    obtain ⟨Wd, hWd⟩ : ∃ Wd, W4.drew = Wd := ⟨_, rfl⟩
    have sZ : Ps w ⟨(some ⟨b, off, none⟩), k1, a2, k2, a3, k3, a4, k4⟩ f w1 u3 ls g 66 #[.string ⟨x.1.toArray⟩, .int .i64 x.2] W4.drew := S4.o.next (Below.refl _ _).drew
    have hbD : Below W4.heap.size W4 W4.drew := (Below.refl _ _).drew
    clear hWd Wd
    go_region_held3 (fun U => U.cell? ⟨g, 0, none⟩ = some (.string ⟨x.1.toArray⟩) ∧ U.cell? ⟨g, 1, none⟩ = some (.int .i64 x.2))
     (first
      | ((try dsimp only); first | (with_reducible exact HC.o _ pw9 k9) | (with_reducible exact HC.o _ sD.1.pw sD.2) | (with_reducible exact HC.o _ sC.1.pw sC.2) | (with_reducible exact HC.o _ sB.1.pw sB.2) | (with_reducible exact HC.o _ sI0.1.pw sI0.2) | (with_reducible exact HC.o _ sZ.1.pw sZ.2))
      | go_keep)
     (first
      | (go_at_call 91; refine (HIT.o _ _ (by omega) (by omega) sZ.1.pw.env).mono ?_; rintro e v1 ⟨rfl, hb5⟩; rw [sv_def]; have sI0 : Ps w ⟨(some ⟨b, off, none⟩), k1, a2, k2, a3, k3, a4, k4⟩ f w1 u3 ls g 66 #[.string ⟨x.1.toArray⟩, .int .i64 x.2] v1 := sZ.next hb5; have hbI0 : Below W4.heap.size W4 v1 := hbD.trans (hb5.mono hbD.size); have sB : Ps w ⟨(some ⟨b, off, none⟩), k1, a2, k2, a3, k3, a4, k4⟩ f w1 u3 ls g 66 #[.string ⟨x.1.toArray⟩, .int .i64 x.2] (v1.alloc (.cells #[.string ⟨#[115, 116, 97, 116, 105, 111, 110]⟩, .string ⟨x.1.toArray⟩, .string ⟨(Lib.itoa x.2).toArray⟩] 9)) := sI0.next ((Below.refl _ _).alloc (Nat.le_refl _) _); have hrd5 : Rd (v1.alloc (.cells #[.string ⟨#[115, 116, 97, 116, 105, 111, 110]⟩, .string ⟨x.1.toArray⟩, .string ⟨(Lib.itoa x.2).toArray⟩] 9)) (v1.alloc (.cells #[.string ⟨#[115, 116, 97, 116, 105, 111, 110]⟩, .string ⟨x.1.toArray⟩, .string ⟨(Lib.itoa x.2).toArray⟩] 9)).heap.size 1 (some ⟨v1.heap.size, 0, none⟩) [Dd.kStation, x.1, Lib.itoa x.2].length (wcells [Dd.kStation, x.1, Lib.itoa x.2]) := rd_new1 v1 9 [.string ⟨#[115, 116, 97, 116, 105, 111, 110]⟩, .string ⟨x.1.toArray⟩, .string ⟨(Lib.itoa x.2).toArray⟩])
      | (go_at_call 90; refine (HSD.o (some ⟨v1.heap.size, 0, none⟩) 3 [Dd.kStation, x.1, Lib.itoa x.2] _ hrd5 (Nat.le_refl _) (show (3 : Nat) ≤ 1000000 by omega) (by intro y hy; simp only [List.mem_cons, List.not_mem_nil, or_false] at hy; rcases hy with rfl | rfl | rfl; exact (by decide); exact (by omega); exact (by omega))).mono ?_; rintro e w7 ⟨rfl, hb7⟩; rw [sv_def]; have sC : Ps w ⟨(some ⟨b, off, none⟩), k1, a2, k2, a3, k3, a4, k4⟩ f w1 u3 ls g 66 #[.string ⟨x.1.toArray⟩, .int .i64 x.2] w7 := sB.next hb7; have hbF : Below W4.heap.size W4 w7 := (hbI0.alloc hbI0.size _).trans (hb7.mono (Nat.le_trans hbI0.size (by simp))); have hown8 := (own_belowG (show W4.ownsRow w1.heap.size 9 1 u3 n X by rw [← HNX.o.1, ← HNX.o.2]; exact S4.o.1.own) hbF).alloc (.cells #[.string ⟨(Dd.saidF [Dd.kStation, x.1, Lib.itoa x.2]).toArray⟩] 9); have hrd8 := rd_new1 w7 9 [.string ⟨(Dd.saidF [Dd.kStation, x.1, Lib.itoa x.2]).toArray⟩]; have sD : Ps w ⟨(some ⟨b, off, none⟩), k1, a2, k2, a3, k3, a4, k4⟩ f w1 u3 ls g 66 #[.string ⟨x.1.toArray⟩, .int .i64 x.2] (w7.alloc (.cells #[.string ⟨(Dd.saidF [Dd.kStation, x.1, Lib.itoa x.2]).toArray⟩] 9)) := sC.next ((Below.refl _ _).alloc (Nat.le_refl _) _))
      | (refine step_append_rd rfl (.tmp 22) (.tmp 30) 23 rfl w1.heap.size 9 i0 _ 1 16 Tryz.underlying23 hi0 hz0 hz1 hz2 rfl (by omega) u3 n X (by rfl) hown8 (some ⟨w7.heap.size, 0, none⟩) 1 1 _ _ (by rfl) hrd8 (wcells_oneP [Dd.saidF [Dd.kStation, x.1, Lib.itoa x.2]]) (by unfold maxLen; omega) (by omega) (Nat.le_trans HKL.o (Nat.le_trans hbF.size (by simp))) ?_; intro v9 W9 hown9 hg9 hat9; have hb9 : Below w1.heap.size W4 W9 := below_own ((hbF.mono HKL.o).alloc (Nat.le_trans HKL.o hbF.size) _) (Nat.le_refl _) hg9 (fun r e => (hown8.lt r e).1) (Nat.le_trans HKL.o (Nat.le_trans hbF.size (by simp))); have hWG : Below w1.heap.size w1 W9 := S4.o.1.b.trans hb9; have pw9 : PwP w ⟨(some ⟨b, off, none⟩), k1, a2, k2, a3, k3, a4, k4⟩ f W9 := S1.o.next hWG; have k9 : Bk W9 g 66 #[.string ⟨x.1.toArray⟩, .int .i64 x.2] := sD.2.grown hg9 (fun e => by obtain ⟨cs', hc⟩ := own_cellsB hown8 e.symm; have h2 := hc.symm.trans sD.2; simp at h2)))
    all_goals
     have HO9 := jQ hown9
     have HB9 := jQ hWG
     clear hown9 hb9 hg9 hat9 hWG
     go_wp2_with fail
     refine ⟨⟨k + 1, by omega, by go_num, ?_⟩, ?_⟩
     ·rw [HSN.o]
      exact ⟨S1.o.next HB9.o, by rw [List.length_append, wcells_app, HNX.o.1, HNX.o.2]; exact HO9.o, HB9.o⟩
     ·show f.st.length - ((k : Int) + 1).toNat < f.st.length - ((k : Int)).toNat
      omega
   ·obtain rfl : k = f.st.length := by omega
    have PE := jQ (show Pl w ⟨a1, k1, a2, k2, a3, k3, a4, k4⟩ f w1 u3 (L1) wr by
     have h := P0.o
     rwa [← HN1.o, List.take_length] at h)
    clear P0
    obtain ⟨f0, f1, f2, f3, fl⟩ := PE.o.pw.fs.cells
    go_wp2_with fail
    clear f0 f1 f2 f3 fl
    go_loopw [3, 36] (fun V I wr => ∃ k : Nat, k ≤ f.li.length ∧ I = .int .i64 k ∧ Pl w ⟨a1, k1, a2, k2, a3, k3, a4, k4⟩ f w1 V (L1 ++ L2.take k) wr) (fun _ I _ => f.li.length - (intOf I).toNat)
    case atStart => exact ⟨0, Nat.zero_le _, rfl, by simpa using PE.o⟩
    case round =>
     obtain ⟨k, hk, rfl, hpl⟩ := hrel
     have P0 := jQ hpl
     clear hpl
     by_cases hlt : k < f.li.length
     ·obtain ⟨b, off, hA, hb, e0⟩ := P0.o.pw.fs.rd.li.text hlt
      dsimp only at hA
      subst hA
      have hb2 : b < wr.heap.size := hb
      have hki : (k : Int) < (f.li.length : Int) := by omega
      have nm := NM2.o _ (List.getElem_mem hlt)
      obtain ⟨x, hx⟩ : ∃ x, f.li[k] = x := ⟨_, rfl⟩
      rw [hx] at e0 nm
      have hln : (L1 ++ L2.take k).length ≤ 1000 := by
       have := HFL.o
       rw [HW.o] at this
       simp only [List.length_append, List.length_take] at this ⊢
       omega
      have hsn : L1 ++ L2.take (k + 1) = (L1 ++ L2.take k) ++ [Dd.saidF [Dd.kLimit, x]] := by
       rw [List.take_succ_eq_append_getElem (by rw [HN2.o]; exact hlt), ← List.append_assoc]
       congr 2
       simp only [← HL2.o, List.getElem_map, hx]
      have HSN := jQ hsn
      clear hsn
      obtain ⟨ls, hls⟩ : ∃ ls, L1 ++ L2.take k = ls := ⟨_, rfl⟩
      rw [hls] at P0 HSN hln
      obtain ⟨n, hnn⟩ : ∃ n, ls.length = n := ⟨_, rfl⟩
      obtain ⟨X, hX⟩ : ∃ X, wcells ls = X := ⟨_, rfl⟩
      rw [hnn] at hln
      have HNX := jQ (And.intro hnn hX)
      have HKL := jQ P0.o.b.size
      clear hls hnn hX
      clear hx
      have hbn := (Below.refl wr.heap.size wr).alloc (Nat.le_refl _) (.cells #[.string ⟨#[108, 105, 109, 105, 116]⟩, .string ⟨x.toArray⟩] 9)
      have hrd5 : Rd (wr.alloc (.cells #[.string ⟨#[108, 105, 109, 105, 116]⟩, .string ⟨x.toArray⟩] 9)) (wr.alloc (.cells #[.string ⟨#[108, 105, 109, 105, 116]⟩, .string ⟨x.toArray⟩] 9)).heap.size 1 (some ⟨wr.heap.size, 0, none⟩) [Dd.kLimit, x].length (wcells [Dd.kLimit, x]) := rd_new1 wr 9 [.string ⟨#[108, 105, 109, 105, 116]⟩, .string ⟨x.toArray⟩]
      have SD := jQ (HSD.o (some ⟨wr.heap.size, 0, none⟩) 2 [Dd.kLimit, x] _ hrd5 (Nat.le_refl _) (show (2 : Nat) ≤ 1000000 by omega) (by intro y hy; simp only [List.mem_cons, List.not_mem_nil, or_false] at hy; rcases hy with rfl | rfl; exact (by decide); exact (by omega)))
      have P1 := jQ (P0.o.next hbn)
      have HBN := jQ hbn
      clear hrd5 hbn
      go_wp2_with fail
      refine SD.o.mono ?_
      rintro e w7 ⟨rfl, hb7⟩
      rw [sv_def]
      have P2 := jQ (P1.o.next hb7)
      have hown7 : w7.ownsRow w1.heap.size 9 1 u3 n X := by rw [← HNX.o.1, ← HNX.o.2]; exact P2.o.own
      have lg7 := P2.o.b.size
      clear hb7 e0 hb hb2 P0 P1 SD
      go_wp2_with (at_builtin; refine wpList_appN rfl (.tmp 40) (.tmp 44) 23 rfl 9 i0 _ 1 16 Tryz.underlying23 hi0 hz0 hz1 hz2 rfl (by omega) w1.heap.size u3 n _ _ 1 1 w7 rfl hown7 rfl rfl (wcells_oneP [Dd.saidF [Dd.kLimit, x]]) (by omega) (by unfold maxLen; omega) (by omega) lg7 ?_; intro v9 W9 hown9 hb9)
      have HB9 := P2.o.b.trans hb9
      refine ⟨⟨k + 1, by omega, by go_num, ?_⟩, ?_⟩
      ·rw [HSN.o]
       exact ⟨S1.o.next HB9, by rw [List.length_append, wcells_app, HNX.o.1, HNX.o.2]; exact hown9, HB9⟩
      ·show f.li.length - ((k : Int) + 1).toNat < f.li.length - ((k : Int)).toNat
       omega
     ·obtain rfl : k = f.li.length := by omega
      have PE := jQ (show Pl w ⟨a1, k1, a2, k2, a3, k3, a4, k4⟩ f w1 u3 (L1 ++ L2) wr by
       have h := P0.o
       rwa [← HN2.o, List.take_length] at h)
      clear P0
      obtain ⟨f0, f1, f2, f3, fl⟩ := PE.o.pw.fs.cells
      go_wp2_with fail
      clear f0 f1 f2 f3 fl
      go_loopw [3, 50] (fun V I wr => ∃ k : Nat, k ≤ f.pa.length ∧ I = .int .i64 k ∧ Pl w ⟨a1, k1, a2, k2, a3, k3, a4, k4⟩ f w1 V (L1 ++ L2 ++ L3.take k) wr) (fun _ I _ => f.pa.length - (intOf I).toNat)
      case atStart => exact ⟨0, Nat.zero_le _, rfl, by simpa using PE.o⟩
      case round =>
       obtain ⟨k, hk, rfl, hpl⟩ := hrel
       have P0 := jQ hpl
       clear hpl
       by_cases hlt : k < f.pa.length
       ·obtain ⟨b, off, hA, hb, e0, e1, e2, e3⟩ := P0.o.pw.fs.rd.pa.parcel hlt
        dsimp only at hA
        subst hA
        have hb2 : b < wr.heap.size := hb
        have hki : (k : Int) < (f.pa.length : Int) := by omega
        have nm := NM3.o _ (List.getElem_mem hlt)
        have po := HPO.o _ (List.getElem_mem hlt)
        obtain ⟨x, hx⟩ : ∃ x, f.pa[k] = x := ⟨_, rfl⟩
        rw [hx] at e0 e1 e2 e3 nm po
        simp only [Dd.paOk, Dd.isIx, Bool.and_eq_true, decide_eq_true_eq] at po
        obtain ⟨xn, xs, xw, xe⟩ := x
        dsimp only at e0 e1 e2 e3 nm po
        obtain ⟨qs, rfl⟩ : ∃ n : Nat, xs = n := ⟨xs.toNat, by omega⟩
        obtain ⟨qw, rfl⟩ : ∃ n : Nat, xw = n := ⟨xw.toNat, by omega⟩
        obtain ⟨qe, rfl⟩ : ∃ n : Nat, xe = n := ⟨xe.toNat, by omega⟩
        have is : qs < f.li.length := by omega
        have iw : qw < f.st.length := by omega
        have ie : qe < f.st.length := by omega
        obtain ⟨b2, off2, hA, -, -⟩ := P0.o.pw.fs.rd.li.text is
        dsimp only at hA
        subst hA
        obtain ⟨b1, off1, hA, -, -⟩ := P0.o.pw.fs.rd.st.station iw
        dsimp only at hA
        subst hA
        have nms := NM2.o _ (List.getElem_mem is)
        have nmw := NM1.o _ (List.getElem_mem iw)
        have nme := NM1.o _ (List.getElem_mem ie)
        obtain ⟨ys, hys⟩ : ∃ y, f.li[qs] = y := ⟨_, rfl⟩
        obtain ⟨yw, hyw⟩ : ∃ y, f.st[qw].1 = y := ⟨_, rfl⟩
        obtain ⟨ye, hye⟩ : ∃ y, f.st[qe].1 = y := ⟨_, rfl⟩
        rw [hys] at nms
        rw [hyw] at nmw
        rw [hye] at nme
        have ls1 : Dd.liAt f (qs : Int) = ys := by unfold Dd.liAt; rw [Int.toNat_natCast, List.getElem?_eq_getElem is, hys]; rfl
        have ls2 : Dd.stAt f (qw : Int) = yw := by unfold Dd.stAt; rw [Int.toNat_natCast, List.getElem?_eq_getElem iw]; exact hyw
        have ls3 : Dd.stAt f (qe : Int) = ye := by unfold Dd.stAt; rw [Int.toNat_natCast, List.getElem?_eq_getElem ie]; exact hye
        have i10 : (0 : Int) ≤ (qs : Int) := Int.natCast_nonneg _
        have i11 : (qs : Int) < (f.li.length : Int) := by omega
        have i20 : (0 : Int) ≤ (qw : Int) := Int.natCast_nonneg _
        have i21 : (qw : Int) < (f.st.length : Int) := by omega
        have i30 : (0 : Int) ≤ (qe : Int) := Int.natCast_nonneg _
        have i31 : (qe : Int) < (f.st.length : Int) := by omega
        have hln : (L1 ++ L2 ++ L3.take k).length ≤ 1000 := by
         have := HFL.o
         rw [HW.o] at this
         simp only [List.length_append, List.length_take] at this ⊢
         omega
        have hsn : L1 ++ L2 ++ L3.take (k + 1) = (L1 ++ L2 ++ L3.take k) ++ [Dd.saidF [Dd.kParcel, xn, ys, yw, ye]] := by
         rw [List.take_succ_eq_append_getElem (by rw [HN3.o]; exact hlt), ← List.append_assoc]
         congr 2
         simp only [← HL3.o, List.getElem_map, hx, ls1, ls2, ls3]
        have HSN := jQ hsn
        clear hsn
        obtain ⟨ls, hls⟩ : ∃ ls, L1 ++ L2 ++ L3.take k = ls := ⟨_, rfl⟩
        rw [hls] at P0 HSN hln
        obtain ⟨n, hnn⟩ : ∃ n, ls.length = n := ⟨_, rfl⟩
        obtain ⟨X, hX⟩ : ∃ X, wcells ls = X := ⟨_, rfl⟩
        rw [hnn] at hln
        have HNX := jQ (And.intro hnn hX)
        have HKL := jQ P0.o.b.size
        clear hls hnn hX
        clear hx po ls1 ls2 ls3
        have hbn := (Below.refl wr.heap.size wr).alloc (Nat.le_refl _) (.cells #[.string ⟨xn.toArray⟩, .int .i64 (qs : Int), .int .i64 (qw : Int), .int .i64 (qe : Int)] 68)
        have hps : Ps w ⟨(some ⟨b1, off1, none⟩), k1, (some ⟨b2, off2, none⟩), k2, (some ⟨b, off, none⟩), k3, a4, k4⟩ f w1 u3 ls wr.heap.size 68 #[.string ⟨xn.toArray⟩, .int .i64 (qs : Int), .int .i64 (qw : Int), .int .i64 (qe : Int)] (wr.alloc (.cells #[.string ⟨xn.toArray⟩, .int .i64 (qs : Int), .int .i64 (qw : Int), .int .i64 (qe : Int)] 68)) := ⟨P0.o.next hbn, Bk.new _ _ _⟩
        go_upto_region 17 with fail
        refine wp_cutW (fun W => Ps w ⟨(some ⟨b1, off1, none⟩), k1, (some ⟨b2, off2, none⟩), k2, (some ⟨b, off, none⟩), k3, a4, k4⟩ f w1 u3 ls wr.heap.size 68 #[.string ⟨xn.toArray⟩, .int .i64 (qs : Int), .int .i64 (qw : Int), .int .i64 (qe : Int)] W) hps ?_
        obtain ⟨g, hg⟩ : ∃ g, wr.heap.size = g := ⟨_, rfl⟩
        rw [hg]
        clear e0 e1 e2 e3 hb hb2 hbn hps hg P0 HKL
        intro W4 hs
        have S4 := jQ hs
        have HKL := jQ hs.1.b.size
        clear hs
        have HC := jQ (fun U (hp : PwP w ⟨(some ⟨b1, off1, none⟩), k1, (some ⟨b2, off2, none⟩), k2, (some ⟨b, off, none⟩), k3, a4, k4⟩ f U) (h : Bk U g 68 #[.string ⟨xn.toArray⟩, .int .i64 (qs : Int), .int .i64 (qw : Int), .int .i64 (qe : Int)]) => (show (((U.cell? ⟨g, 0, none⟩ = some (.string ⟨xn.toArray⟩) ∧ U.cell? ⟨g, 1, none⟩ = some (.int .i64 (qs : Int))) ∧ (U.cell? ⟨g, 2, none⟩ = some (.int .i64 (qw : Int)) ∧ U.cell? ⟨g, 3, none⟩ = some (.int .i64 (qe : Int)))) ∧ ((U.cell? ⟨w.heap.size, 0, none⟩ = some (.slice (some ⟨b1, off1, none⟩) f.st.length k1) ∧ U.cell? ⟨w.heap.size, 1, none⟩ = some (.slice (some ⟨b2, off2, none⟩) f.li.length k2)) ∧ (U.cell? ⟨b2, off2 + qs, none⟩ = some (.string ⟨ys.toArray⟩) ∧ (U.cell? ⟨b1, off1 + qw * 2, none⟩ = some (.string ⟨yw.toArray⟩) ∧ U.cell? ⟨b1, off1 + qe * 2, none⟩ = some (.string ⟨ye.toArray⟩))))) from by
         obtain ⟨q0, q1, -, -, -⟩ := hp.fs.cells
         obtain ⟨_, _, eA, _, c1⟩ := hp.fs.rd.li.text is
         cases eA
         obtain ⟨_, _, eA, _, c2, _⟩ := hp.fs.rd.st.station iw
         cases eA
         obtain ⟨_, _, eA, _, c3, _⟩ := hp.fs.rd.st.station ie
         cases eA
         rw [hys] at c1
         rw [hyw] at c2
         rw [hye] at c3
         exact ⟨⟨⟨(h.cell 0).trans rfl, (h.cell 1).trans rfl⟩, ⟨(h.cell 2).trans rfl, (h.cell 3).trans rfl⟩⟩, ⟨⟨q0, q1⟩, ⟨c1, ⟨c2, c3⟩⟩⟩⟩))
        obtain ⟨⟨⟨x0, x1⟩, ⟨x2, x3⟩⟩, ⟨⟨f0, f1⟩, ⟨t1, ⟨t2, t3⟩⟩⟩⟩ := HC.o _ S4.o.1.pw S4.o.2
        have xl := S4.o.2.lt
        have lb2 : b2 < W4.heap.size := by obtain ⟨_, _, eA, h, _⟩ := S4.o.1.pw.fs.rd.li.text is; cases eA; exact h
        have lb1 : b1 < W4.heap.size := by obtain ⟨_, _, eA, h, _⟩ := S4.o.1.pw.fs.rd.st.station iw; cases eA; exact h
        have lf := S4.o.1.pw.fs.k.lt
        obtain ⟨Wd, hWd⟩ : ∃ Wd, W4.drew = Wd := ⟨_, rfl⟩
        have sZ : Ps w ⟨(some ⟨b1, off1, none⟩), k1, (some ⟨b2, off2, none⟩), k2, (some ⟨b, off, none⟩), k3, a4, k4⟩ f w1 u3 ls g 68 #[.string ⟨xn.toArray⟩, .int .i64 (qs : Int), .int .i64 (qw : Int), .int .i64 (qe : Int)] W4.drew := S4.o.next (Below.refl _ _).drew
        have hbD : Below W4.heap.size W4 W4.drew := (Below.refl _ _).drew
        clear hWd Wd
        have sB : Ps w ⟨(some ⟨b1, off1, none⟩), k1, (some ⟨b2, off2, none⟩), k2, (some ⟨b, off, none⟩), k3, a4, k4⟩ f w1 u3 ls g 68 #[.string ⟨xn.toArray⟩, .int .i64 (qs : Int), .int .i64 (qw : Int), .int .i64 (qe : Int)] (W4.drew.alloc (.cells #[.string ⟨#[112, 97, 114, 99, 101, 108]⟩, .string ⟨xn.toArray⟩, .string ⟨ys.toArray⟩, .string ⟨yw.toArray⟩, .string ⟨ye.toArray⟩] 9)) := sZ.next ((Below.refl _ _).alloc (Nat.le_refl _) _)
        have hrd5 : Rd (W4.drew.alloc (.cells #[.string ⟨#[112, 97, 114, 99, 101, 108]⟩, .string ⟨xn.toArray⟩, .string ⟨ys.toArray⟩, .string ⟨yw.toArray⟩, .string ⟨ye.toArray⟩] 9)) (W4.drew.alloc (.cells #[.string ⟨#[112, 97, 114, 99, 101, 108]⟩, .string ⟨xn.toArray⟩, .string ⟨ys.toArray⟩, .string ⟨yw.toArray⟩, .string ⟨ye.toArray⟩] 9)).heap.size 1 (some ⟨W4.drew.heap.size, 0, none⟩) [Dd.kParcel, xn, ys, yw, ye].length (wcells [Dd.kParcel, xn, ys, yw, ye]) := rd_new1 W4.drew 9 [.string ⟨#[112, 97, 114, 99, 101, 108]⟩, .string ⟨xn.toArray⟩, .string ⟨ys.toArray⟩, .string ⟨yw.toArray⟩, .string ⟨ye.toArray⟩]
        go_region_held3 (fun U => (((U.cell? ⟨g, 0, none⟩ = some (.string ⟨xn.toArray⟩) ∧ U.cell? ⟨g, 1, none⟩ = some (.int .i64 (qs : Int))) ∧ (U.cell? ⟨g, 2, none⟩ = some (.int .i64 (qw : Int)) ∧ U.cell? ⟨g, 3, none⟩ = some (.int .i64 (qe : Int)))) ∧ ((U.cell? ⟨w.heap.size, 0, none⟩ = some (.slice (some ⟨b1, off1, none⟩) f.st.length k1) ∧ U.cell? ⟨w.heap.size, 1, none⟩ = some (.slice (some ⟨b2, off2, none⟩) f.li.length k2)) ∧ (U.cell? ⟨b2, off2 + qs, none⟩ = some (.string ⟨ys.toArray⟩) ∧ (U.cell? ⟨b1, off1 + qw * 2, none⟩ = some (.string ⟨yw.toArray⟩) ∧ U.cell? ⟨b1, off1 + qe * 2, none⟩ = some (.string ⟨ye.toArray⟩))))))
         (first
          | ((try dsimp only); first | (with_reducible exact HC.o _ pw9 k9) | (with_reducible exact HC.o _ sD.1.pw sD.2) | (with_reducible exact HC.o _ sC.1.pw sC.2) | (with_reducible exact HC.o _ sB.1.pw sB.2) | (with_reducible exact HC.o _ sZ.1.pw sZ.2))
          | go_keep)
         (first
          | (go_at_call 90; refine (HSD.o (some ⟨W4.drew.heap.size, 0, none⟩) 5 [Dd.kParcel, xn, ys, yw, ye] _ hrd5 (Nat.le_refl _) (show (5 : Nat) ≤ 1000000 by omega) (by intro y hy; simp only [List.mem_cons, List.not_mem_nil, or_false] at hy; rcases hy with rfl | rfl | rfl | rfl | rfl; exact (by decide); exact (by omega); exact (by omega); exact (by omega); exact (by omega))).mono ?_; rintro e w7 ⟨rfl, hb7⟩; rw [sv_def]; have sC : Ps w ⟨(some ⟨b1, off1, none⟩), k1, (some ⟨b2, off2, none⟩), k2, (some ⟨b, off, none⟩), k3, a4, k4⟩ f w1 u3 ls g 68 #[.string ⟨xn.toArray⟩, .int .i64 (qs : Int), .int .i64 (qw : Int), .int .i64 (qe : Int)] w7 := sB.next hb7; have hbF : Below W4.heap.size W4 w7 := (hbD.alloc hbD.size _).trans (hb7.mono (Nat.le_trans hbD.size (by simp))); have hown8 := (own_belowG (show W4.ownsRow w1.heap.size 9 1 u3 n X by rw [← HNX.o.1, ← HNX.o.2]; exact S4.o.1.own) hbF).alloc (.cells #[.string ⟨(Dd.saidF [Dd.kParcel, xn, ys, yw, ye]).toArray⟩] 9); have hrd8 := rd_new1 w7 9 [.string ⟨(Dd.saidF [Dd.kParcel, xn, ys, yw, ye]).toArray⟩]; have sD : Ps w ⟨(some ⟨b1, off1, none⟩), k1, (some ⟨b2, off2, none⟩), k2, (some ⟨b, off, none⟩), k3, a4, k4⟩ f w1 u3 ls g 68 #[.string ⟨xn.toArray⟩, .int .i64 (qs : Int), .int .i64 (qw : Int), .int .i64 (qe : Int)] (w7.alloc (.cells #[.string ⟨(Dd.saidF [Dd.kParcel, xn, ys, yw, ye]).toArray⟩] 9)) := sC.next ((Below.refl _ _).alloc (Nat.le_refl _) _))
          | (refine step_append_rd rfl (.tmp 54) (.tmp 79) 23 rfl w1.heap.size 9 i0 _ 1 16 Tryz.underlying23 hi0 hz0 hz1 hz2 rfl (by omega) u3 n X (by rfl) hown8 (some ⟨w7.heap.size, 0, none⟩) 1 1 _ _ (by rfl) hrd8 (wcells_oneP [Dd.saidF [Dd.kParcel, xn, ys, yw, ye]]) (by unfold maxLen; omega) (by omega) (Nat.le_trans HKL.o (Nat.le_trans hbF.size (by simp))) ?_; intro v9 W9 hown9 hg9 hat9; have hb9 : Below w1.heap.size W4 W9 := below_own ((hbF.mono HKL.o).alloc (Nat.le_trans HKL.o hbF.size) _) (Nat.le_refl _) hg9 (fun r e => (hown8.lt r e).1) (Nat.le_trans HKL.o (Nat.le_trans hbF.size (by simp))); have hWG : Below w1.heap.size w1 W9 := S4.o.1.b.trans hb9; have pw9 : PwP w ⟨(some ⟨b1, off1, none⟩), k1, (some ⟨b2, off2, none⟩), k2, (some ⟨b, off, none⟩), k3, a4, k4⟩ f W9 := S1.o.next hWG; have k9 : Bk W9 g 68 #[.string ⟨xn.toArray⟩, .int .i64 (qs : Int), .int .i64 (qw : Int), .int .i64 (qe : Int)] := sD.2.grown hg9 (fun e => by obtain ⟨cs', hc⟩ := own_cellsB hown8 e.symm; have h2 := hc.symm.trans sD.2; simp at h2)))
        all_goals
         have HO9 := jQ hown9
         have HB9 := jQ hWG
         clear hown9 hb9 hg9 hat9 hWG
         go_wp2_with fail
         refine ⟨⟨k + 1, by omega, by go_num, ?_⟩, ?_⟩
         ·rw [HSN.o]
          exact ⟨S1.o.next HB9.o, by rw [List.length_append, wcells_app, HNX.o.1, HNX.o.2]; exact HO9.o, HB9.o⟩
         ·show f.pa.length - ((k : Int) + 1).toNat < f.pa.length - ((k : Int)).toNat
          omega
       ·obtain rfl : k = f.pa.length := by omega
        have PE := jQ (show Pl w ⟨a1, k1, a2, k2, a3, k3, a4, k4⟩ f w1 u3 (L1 ++ L2 ++ L3) wr by
         have h := P0.o
         rwa [← HN3.o, List.take_length] at h)
        clear P0
        obtain ⟨f0, f1, f2, f3, fl⟩ := PE.o.pw.fs.cells
        go_wp2_with fail
        clear f0 f1 f2 f3 fl
        go_loopw [3, 85] (fun V I wr => ∃ k : Nat, k ≤ f.va.length ∧ I = .int .i64 k ∧ Pl w ⟨a1, k1, a2, k2, a3, k3, a4, k4⟩ f w1 V (L1 ++ L2 ++ L3 ++ L4.take k) wr) (fun _ I _ => f.va.length - (intOf I).toNat)
        case atStart => exact ⟨0, Nat.zero_le _, rfl, by simpa using PE.o⟩
        case round =>
         obtain ⟨k, hk, rfl, hpl⟩ := hrel
         have P0 := jQ hpl
         clear hpl
         by_cases hlt : k < f.va.length
         ·obtain ⟨b, off, hA, hb, e0, e1⟩ := P0.o.pw.fs.rd.va.var hlt
          dsimp only at hA
          subst hA
          have hb2 : b < wr.heap.size := hb
          have hki : (k : Int) < (f.va.length : Int) := by omega
          have nn := NN4.o _ (List.getElem_mem hlt)
          obtain ⟨x, hx⟩ : ∃ x, f.va[k] = x := ⟨_, rfl⟩
          rw [hx] at e0 e1 nn
          obtain ⟨x1, x2⟩ := x
          dsimp only at e0 e1 nn
          have hln : (L1 ++ L2 ++ L3 ++ L4.take k).length ≤ 1000 := by
           have := HFL.o
           rw [HW.o] at this
           simp only [List.length_append, List.length_take] at this ⊢
           omega
          have hsn : L1 ++ L2 ++ L3 ++ L4.take (k + 1) = (L1 ++ L2 ++ L3 ++ L4.take k) ++ [Dd.saidF [Dd.kVariation, Lib.itoa x1, Lib.itoa x2]] := by
           rw [List.take_succ_eq_append_getElem (by rw [HN4.o]; exact hlt), ← List.append_assoc]
           congr 2
           simp only [← HL4.o, List.getElem_map, hx]
          have HSN := jQ hsn
          clear hsn
          obtain ⟨ls, hls⟩ : ∃ ls, L1 ++ L2 ++ L3 ++ L4.take k = ls := ⟨_, rfl⟩
          rw [hls] at P0 HSN hln
          obtain ⟨n, hnn⟩ : ∃ n, ls.length = n := ⟨_, rfl⟩
          obtain ⟨X, hX⟩ : ∃ X, wcells ls = X := ⟨_, rfl⟩
          rw [hnn] at hln
          have HNX := jQ (And.intro hnn hX)
          have HKL := jQ P0.o.b.size
          clear hls hnn hX
          clear hx
          have hit := Dd.itoa_le (n := x1) (by omega) (by omega)
          have hit2 := Dd.itoa_le (n := x2) (by omega) (by omega)
          have hbn := (Below.refl wr.heap.size wr).alloc (Nat.le_refl _) (.cells #[.int .i64 x1, .int .i64 x2] 116)
          have hps : Ps w ⟨a1, k1, a2, k2, a3, k3, (some ⟨b, off, none⟩), k4⟩ f w1 u3 ls wr.heap.size 116 #[.int .i64 x1, .int .i64 x2] (wr.alloc (.cells #[.int .i64 x1, .int .i64 x2] 116)) := ⟨P0.o.next hbn, Bk.new _ _ _⟩
          go_upto_region 22 with fail
          refine wp_cutW (fun W => Ps w ⟨a1, k1, a2, k2, a3, k3, (some ⟨b, off, none⟩), k4⟩ f w1 u3 ls wr.heap.size 116 #[.int .i64 x1, .int .i64 x2] W) hps ?_
          obtain ⟨g, hg⟩ : ∃ g, wr.heap.size = g := ⟨_, rfl⟩
          rw [hg]
          clear e0 e1 hb hb2 hbn hps hg P0 HKL
          intro W4 hs
          have S4 := jQ hs
          have HKL := jQ hs.1.b.size
          clear hs
          have HC := jQ (fun U (hp : PwP w ⟨a1, k1, a2, k2, a3, k3, (some ⟨b, off, none⟩), k4⟩ f U) (h : Bk U g 116 #[.int .i64 x1, .int .i64 x2]) => (show U.cell? ⟨g, 0, none⟩ = some (.int .i64 x1) ∧ U.cell? ⟨g, 1, none⟩ = some (.int .i64 x2) from ⟨(h.cell 0).trans rfl, (h.cell 1).trans rfl⟩))
          obtain ⟨x0, xx1⟩ := HC.o _ S4.o.1.pw S4.o.2
          have xl := S4.o.2.lt
          obtain ⟨Wd, hWd⟩ : ∃ Wd, W4.drew = Wd := ⟨_, rfl⟩
          have sZ : Ps w ⟨a1, k1, a2, k2, a3, k3, (some ⟨b, off, none⟩), k4⟩ f w1 u3 ls g 116 #[.int .i64 x1, .int .i64 x2] W4.drew := S4.o.next (Below.refl _ _).drew
          have hbD : Below W4.heap.size W4 W4.drew := (Below.refl _ _).drew
          clear hWd Wd
          go_region_held3 (fun U => U.cell? ⟨g, 0, none⟩ = some (.int .i64 x1) ∧ U.cell? ⟨g, 1, none⟩ = some (.int .i64 x2))
           (first
            | ((try dsimp only); first | (with_reducible exact HC.o _ pw9 k9) | (with_reducible exact HC.o _ sD.1.pw sD.2) | (with_reducible exact HC.o _ sC.1.pw sC.2) | (with_reducible exact HC.o _ sB.1.pw sB.2) | (with_reducible exact HC.o _ sI1.1.pw sI1.2) | (with_reducible exact HC.o _ sI0.1.pw sI0.2) | (with_reducible exact HC.o _ sZ.1.pw sZ.2))
            | go_keep)
           (first
            | (go_at_call 91; first | (refine (HIT.o _ _ (by omega) (by omega) sI0.1.pw.env).mono ?_; rintro e v2 ⟨rfl, hb6⟩; rw [sv_def]; have sI1 : Ps w ⟨a1, k1, a2, k2, a3, k3, (some ⟨b, off, none⟩), k4⟩ f w1 u3 ls g 116 #[.int .i64 x1, .int .i64 x2] v2 := sI0.next hb6; have hbI1 : Below W4.heap.size W4 v2 := hbI0.trans (hb6.mono hbI0.size); have sB : Ps w ⟨a1, k1, a2, k2, a3, k3, (some ⟨b, off, none⟩), k4⟩ f w1 u3 ls g 116 #[.int .i64 x1, .int .i64 x2] (v2.alloc (.cells #[.string ⟨#[118, 97, 114, 105, 97, 116, 105, 111, 110]⟩, .string ⟨(Lib.itoa x1).toArray⟩, .string ⟨(Lib.itoa x2).toArray⟩] 9)) := sI1.next ((Below.refl _ _).alloc (Nat.le_refl _) _); have hrd5 : Rd (v2.alloc (.cells #[.string ⟨#[118, 97, 114, 105, 97, 116, 105, 111, 110]⟩, .string ⟨(Lib.itoa x1).toArray⟩, .string ⟨(Lib.itoa x2).toArray⟩] 9)) (v2.alloc (.cells #[.string ⟨#[118, 97, 114, 105, 97, 116, 105, 111, 110]⟩, .string ⟨(Lib.itoa x1).toArray⟩, .string ⟨(Lib.itoa x2).toArray⟩] 9)).heap.size 1 (some ⟨v2.heap.size, 0, none⟩) [Dd.kVariation, Lib.itoa x1, Lib.itoa x2].length (wcells [Dd.kVariation, Lib.itoa x1, Lib.itoa x2]) := rd_new1 v2 9 [.string ⟨#[118, 97, 114, 105, 97, 116, 105, 111, 110]⟩, .string ⟨(Lib.itoa x1).toArray⟩, .string ⟨(Lib.itoa x2).toArray⟩]) | (refine (HIT.o _ _ (by omega) (by omega) sZ.1.pw.env).mono ?_; rintro e v1 ⟨rfl, hb5⟩; rw [sv_def]; have sI0 : Ps w ⟨a1, k1, a2, k2, a3, k3, (some ⟨b, off, none⟩), k4⟩ f w1 u3 ls g 116 #[.int .i64 x1, .int .i64 x2] v1 := sZ.next hb5; have hbI0 : Below W4.heap.size W4 v1 := hbD.trans (hb5.mono hbD.size)))
            | (go_at_call 90; refine (HSD.o (some ⟨v2.heap.size, 0, none⟩) 3 [Dd.kVariation, Lib.itoa x1, Lib.itoa x2] _ hrd5 (Nat.le_refl _) (show (3 : Nat) ≤ 1000000 by omega) (by intro y hy; simp only [List.mem_cons, List.not_mem_nil, or_false] at hy; rcases hy with rfl | rfl | rfl; exact (by decide); exact (by omega); exact (by omega))).mono ?_; rintro e w7 ⟨rfl, hb7⟩; rw [sv_def]; have sC : Ps w ⟨a1, k1, a2, k2, a3, k3, (some ⟨b, off, none⟩), k4⟩ f w1 u3 ls g 116 #[.int .i64 x1, .int .i64 x2] w7 := sB.next hb7; have hbF : Below W4.heap.size W4 w7 := (hbI1.alloc hbI1.size _).trans (hb7.mono (Nat.le_trans hbI1.size (by simp))); have hown8 := (own_belowG (show W4.ownsRow w1.heap.size 9 1 u3 n X by rw [← HNX.o.1, ← HNX.o.2]; exact S4.o.1.own) hbF).alloc (.cells #[.string ⟨(Dd.saidF [Dd.kVariation, Lib.itoa x1, Lib.itoa x2]).toArray⟩] 9); have hrd8 := rd_new1 w7 9 [.string ⟨(Dd.saidF [Dd.kVariation, Lib.itoa x1, Lib.itoa x2]).toArray⟩]; have sD : Ps w ⟨a1, k1, a2, k2, a3, k3, (some ⟨b, off, none⟩), k4⟩ f w1 u3 ls g 116 #[.int .i64 x1, .int .i64 x2] (w7.alloc (.cells #[.string ⟨(Dd.saidF [Dd.kVariation, Lib.itoa x1, Lib.itoa x2]).toArray⟩] 9)) := sC.next ((Below.refl _ _).alloc (Nat.le_refl _) _))
            | (refine step_append_rd rfl (.tmp 89) (.tmp 98) 23 rfl w1.heap.size 9 i0 _ 1 16 Tryz.underlying23 hi0 hz0 hz1 hz2 rfl (by omega) u3 n X (by rfl) hown8 (some ⟨w7.heap.size, 0, none⟩) 1 1 _ _ (by rfl) hrd8 (wcells_oneP [Dd.saidF [Dd.kVariation, Lib.itoa x1, Lib.itoa x2]]) (by unfold maxLen; omega) (by omega) (Nat.le_trans HKL.o (Nat.le_trans hbF.size (by simp))) ?_; intro v9 W9 hown9 hg9 hat9; have hb9 : Below w1.heap.size W4 W9 := below_own ((hbF.mono HKL.o).alloc (Nat.le_trans HKL.o hbF.size) _) (Nat.le_refl _) hg9 (fun r e => (hown8.lt r e).1) (Nat.le_trans HKL.o (Nat.le_trans hbF.size (by simp))); have hWG : Below w1.heap.size w1 W9 := S4.o.1.b.trans hb9; have pw9 : PwP w ⟨a1, k1, a2, k2, a3, k3, (some ⟨b, off, none⟩), k4⟩ f W9 := S1.o.next hWG; have k9 : Bk W9 g 116 #[.int .i64 x1, .int .i64 x2] := sD.2.grown hg9 (fun e => by obtain ⟨cs', hc⟩ := own_cellsB hown8 e.symm; have h2 := hc.symm.trans sD.2; simp at h2)))
          all_goals
           have HO9 := jQ hown9
           have HB9 := jQ hWG
           clear hown9 hb9 hg9 hat9 hWG
           go_wp2_with fail
           refine ⟨⟨k + 1, by omega, by go_num, ?_⟩, ?_⟩
           ·rw [HSN.o]
            exact ⟨S1.o.next HB9.o, by rw [List.length_append, wcells_app, HNX.o.1, HNX.o.2]; exact HO9.o, HB9.o⟩
           ·show f.va.length - ((k : Int) + 1).toNat < f.va.length - ((k : Int)).toNat
            omega
         ·obtain rfl : k = f.va.length := by omega
          have PE := jQ (show Pl w ⟨a1, k1, a2, k2, a3, k3, a4, k4⟩ f w1 u3 (Dd.fieldW f) wr by
           have h := P0.o
           rw [← HN4.o, List.take_length] at h
           rw [HW.o]
           exact h)
          obtain ⟨A', c', rfl, hrd, -⟩ := ownB_rd PE.o.own (wcells_lenP _)
          have SR := jQ (source_any A' c' (Dd.fieldW f) wr hrd (by have := HFL.o; omega) HFS.o)
          clear P0 hrd
          go_wp2_with fail
          refine SR.o.mono ?_
          rintro e w9 ⟨rfl, hb⟩
          have HB := jQ (PE.o.pw.fs.b.trans (hb.mono PE.o.pw.fs.b.size))
          clear hb
          rw [sv_def]
          go_wp2_with fail
          go_ret
          exact ⟨by rw [HD.o]; rfl, HB.o⟩
 ·rw [if_pos he] at hd
  have hne : (ef != 0) = true := by simp [he]
  rw [hd]
  clear hF hE hd hef he
  obtain ⟨f0, f1, f2, f3, fl⟩ := S0.o.fs.cells
  go_enter Tryz.func37, Tryz.ntmps37
  go_wp2_with fail
  refine (B0.o _ S0.o).mono ?_
  rintro e w1 ⟨rfl, hb⟩
  have S1 := jQ (S0.o.next hb)
  clear hb f0 f1 f2 f3 fl S0
  go_wp2_with fail
  go_ret
  exact ⟨rfl, S1.o.fs.b⟩
end
end Go.Proofs.YtccikcpcfdjobaaGreatDoor
