/-
  What the claims of layer deed need of the texts DTrd, DSpl, Shelf2, DWof, DDat, DRln.
-/
import Derived.Defers
import Derived.Recover
import Derived.Lib.IndexBytes
import Derived.Lib.IndexMore
import Derived.Shelf.Strings.Builder1
import Derived.Shelf.Strings.Builder2
import Derived.Shelf.Strings.OnBuilder
import Derived.Shelf.Strings.BuilderF
import Derived.Shelf.Strings.BuilderK
import Derived.Shelf.Utf8.RuneCount
import Derived.Shelf.Strings.Builder2Cap
import Derived.Shelf.Strconv.Atoi
import Derived.Shelf.Strconv.Itoa0
import Derived.Shelf.Strconv.Itoa1
import Derived.Shelf.LaysM
import Derived.Shelf.Strconv.Itoa2
import Derived.Shelf.Strconv.Itoa3
import Derived.Shelf.Strconv.AtoiErrFast
import Derived.Shelf.Strconv.ParseIntEmpty
import Derived.Shelf.Strconv.AtoiFail
import Derived.Shelf.Strconv.Clone
import Derived.Shelf.Strconv.SyntaxError
import Derived.Shelf.LaysC
import Derived.Shelf.Strconv.ToError
import Derived.Shelf.Strconv.Lower
import Derived.Shelf.Strconv.ParseUint10
import Derived.Shelf.Strconv.ParseUint10Empty
import Derived.Shelf.Strconv.ParseUint10Any
import Derived.Shelf.Strconv.ParseInt10
import Derived.Shelf.Strconv.AtoiLong
import Derived.Shelf.Strconv.AtoiInnerAll
import Derived.Shelf.Strconv.RangeError
import Derived.Shelf.Strconv.ToErrorRange
import Derived.Shelf.Strconv.AtoiAll
import Derived.Shelf.Strconv.ErrVarAll
import Derived.Shelf.Strings.Search1
import Derived.Shelf.Strings.Search2
import Derived.Shelf.Strings.Search3
import Derived.Shelf.Strings.Cut
import Derived.Shelf.Strings.Count
import Derived.Shelf.Strings.Shaped
import Derived.Shelf.Strings.Split
import Derived.Shelf.Strings.SplitShaped
import Derived.Shelf.Unicode.Decode
import Derived.Shelf.Strings.RuneCount
import Derived.Shelf.Strings.Explode
import Derived.Shelf.Unicode.DecodeSlow
import Derived.Shelf.Unicode.DecodeAny
import Derived.Shelf.Strings.FieldsFuncAny
import Derived.Shelf.Strings.BuilderCap
import Derived.Shelf.Slices.Turned
import Derived.Ground.SlgfProg
import Derived.Shelf.SlicesE.IndexFunc
import Derived.Test.YtcbeefbefapicaaGreatDoorBn29
import Derived.Test.YtcbeefbefapicaaGreatDoorBn14
import Derived.Test.YtcbeefbefapicaaGreatDoorBn05
import Derived.Test.YtcbeefbefapicaaGreatDoorProg
set_option linter.unusedVariables false
set_option linter.unusedSimpArgs false
namespace Go.Proofs.YtcbeefbefapicaaGreatDoor
open Go.RowKit Go.Shelf
set_option maxRecDepth 100000
theorem assert_errno (x : TypeId) (v : Value) (w : World) : (Instr.typeAssert (.iface 30 v) x 30 false).run Tryz.prog w = .ok v w := by
 have hu := Tryz.underlying30
 simp [Instr.typeAssert, run_underlying hu, Result.andThen]
theorem tried1_panicking (g : Nat) (x : Value) (n : Int) (w : World) (hc : w.cell? ⟨g, 0, none⟩ = some x) (hf : w.frozen? ⟨g, 0, none⟩ = false) :
  CallsD Tryz.prog 103 #[.pointer (some ⟨g, 0, none⟩)] (.panicking [pan n]) w fun e u' w' =>
   e = .returned (.tuple #[]) ∧ u' = .panicking [{ v := .iface 30 (.int .i64 n), recovered := true }] ∧ w' = w.setCell ⟨g, 0, none⟩ (.int .i64 n) := by
 refine callsD_of_wpS Tryz.func103 rfl fun c₀ cs hu => ?_
 apply wpS_seq
 apply wpS_region
 simp [wpOpsS, go_sem, recoverD, hu, Tryz.ntmps103, Exit.thenS, pan]
 apply wpS_seq
 apply wpS_region
 simp [wpOpsS, go_sem, Exit.thenS, Array.replicate]
 refine wpS_cond (t := true) (by simp [Act.eval]) ?_
 simp only [if_true]
 apply wpS_region
 simp [wpOpsS, go_sem, hc, hf, bodyPostS, results, Tryz.results103, assert_errno]
theorem tried1_idle (g : Nat) (w : World) :
  CallsD Tryz.prog 103 #[.pointer (some ⟨g, 0, none⟩)] .returning w fun e u' w' => e = .returned (.tuple #[]) ∧ u' = .returning ∧ w' = w := by
 refine callsD_of_wpS Tryz.func103 rfl fun c₀ cs hu => ?_
 apply wpS_seq
 apply wpS_region
 simp [wpOpsS, go_sem, recoverD, hu, Tryz.ntmps103, Exit.thenS]
 apply wpS_seq
 apply wpS_region
 simp [wpOpsS, go_sem, Exit.thenS, Array.replicate]
 refine wpS_cond (t := false) (by simp [Act.eval]) ?_
 simp only [Bool.false_eq_true, if_false]
 refine wpS_of_wp (wp_skip ?_)
 cases c₀
 simp_all [bodyPostS, results, Tryz.results103]
def Lo (ok : World → Prop) (bad : Int → World → Prop) (e : Ending) (w' : World) : Prop := (e = .returned (.tuple #[]) ∧ ok w') ∨ ∃ n, e = .panicked [pan n] ∧ bad n w'
set_option maxHeartbeats 4000000 in
theorem tried_any (kf : Nat) (first capS : Array Value) (ok : World → Prop) (bad : Int → World → Prop) (w : World)
  (hc : ∀ W1, W1 = w.alloc (.cells #[.int .i64 0] 30) → Calls Tryz.prog kf (first ++ #[] ++ capS) W1 (Lo ok bad))
  (hok : ∀ W, ok W → Bk W w.heap.size 30 #[.int .i64 0]) (hbad : ∀ n W, bad n W → Bk W w.heap.size 30 #[.int .i64 0])
  (ef : ∀ args w, (callFunc kf args).run Tryz.prog w = .ok (.enter kf args) w) :
  Calls Tryz.prog 61 #[.func (.func kf) first capS] w fun e w' => ∃ W n, ((n = 0 ∧ ok W) ∨ bad n W) ∧ e = .returned (.int .i64 n) ∧ w' = W.setCell ⟨w.heap.size, 0, none⟩ (.int .i64 n) := by
 have hmf : ∀ (fn : Fn) (first cap : Array Value) (w : World), (Instr.makeFunc fn first cap).run Tryz.prog w = .ok (.func fn first cap) w := fun _ _ _ _ => rfl
 have HC := Lib.hid (hc _ rfl)
 have HOK := Lib.hid hok
 have HBAD := Lib.hid hbad
 clear hc hok hbad
 go_enter_defers Tryz.func61, Tryz.ntmps61
 go_wp2_with fail
 refine HC.out.mono ?_
 rintro e w2 (⟨rfl, h⟩ | ⟨n, rfl, h⟩)
 ·have hk := HOK.out _ h
  have KE := Lib.hid hk
  have HH := Lib.hid h
  have c0 := (hk.cell 0).trans rfl
  have f0 := hk.frozen 0
  have l0 := hk.lt
  clear h hk
  simp only []
  go_wp2_with fail
  refine leaves_cons (f := 103) (args := #[.pointer (some ⟨w.heap.size, 0, none⟩)]) (by simp) (by simp [go_sem]) ?_
  refine (tried1_idle w.heap.size _).mono ?_
  rintro e u' w'' ⟨rfl, rfl, rfl⟩
  refine ⟨_, results_cell1 rfl _ _ w.heap.size _ rfl (((KE.out.set 0 (.int .i64 0)).cell 0).trans rfl) Tryz.isAgg30, ?_⟩
  exact ⟨w2, 0, .inl ⟨rfl, HH.out⟩, rfl, rfl⟩
 ·have hk := HBAD.out _ _ h
  have KE := Lib.hid hk
  have HH := Lib.hid h
  clear h hk
  simp only []
  refine leaves_cons (f := 103) (args := #[.pointer (some ⟨w.heap.size, 0, none⟩)]) (by simp) (by simp [go_sem]) ?_
  refine (tried1_panicking w.heap.size _ n _ ((KE.out.cell 0).trans rfl) (KE.out.frozen 0)).mono ?_
  rintro e u' w'' ⟨rfl, rfl, rfl⟩
  refine ⟨_, results_cell1 rfl _ _ w.heap.size _ rfl (((KE.out.set 0 (.int .i64 n)).cell 0).trans rfl) Tryz.isAgg30, ?_⟩
  exact ⟨w2, n, .inr HH.out, rfl, rfl⟩
end Go.Proofs.YtcbeefbefapicaaGreatDoor

namespace Go.Proofs.YtcbeefbefapicaaGreatDoor
namespace Dd
theorem ixb_cases (c : UInt8) : ∀ s : Bs, (c ∉ s ∧ Lib.index s [c] = -1) ∨ ∃ a r, s = a ++ c :: r ∧ c ∉ a ∧ Lib.index s [c] = (a.length : Int)
  | [] => .inl ⟨by simp, by rw [Lib.index_one]; rfl⟩
  | b :: l => by
    rw [Lib.index_one]
    have ih := ixb_cases c l
    rw [Lib.index_one] at ih
    by_cases h : b = c
    · subst h
      exact .inr ⟨[], l, rfl, by simp, by simp [Lib.indexByte]⟩
    · have hb : (b == c) = false := by simpa using h
      rcases ih with ⟨h1, h2⟩ | ⟨a, r, h1, h2, h3⟩
      · exact .inl ⟨by simp [h1, Ne.symm h], by simp [Lib.indexByte, hb, h2]⟩
      · refine .inr ⟨b :: a, r, by rw [h1]; rfl, by simp [h2, Ne.symm h], ?_⟩
        have : ((a.length : Int) == -1) = false := by rw [beq_eq_false_iff_ne]; omega
        simp [Lib.indexByte, hb, h3, this]
theorem code_no : ∀ {a : Bs}, (35 : UInt8) ∉ a → codeF a = a
  | [], _ => rfl
  | b :: a, h => by
    have hb : ¬ b = 35 := fun e => h (by simp [e])
    have ih := code_no (a := a) (fun hm => h (List.mem_cons_of_mem _ hm))
    unfold codeF at ih ⊢
    rw [List.takeWhile_cons_of_pos (by simpa using hb), ih]
theorem code_cut {a r : Bs} (h : (35 : UInt8) ∉ a) : codeF (a ++ 35 :: r) = a := by
 unfold codeF
 rw [List.takeWhile_append_of_pos]
 ·simp
 ·intro x hx
  simp only [decide_eq_true_eq]
  rintro rfl
  exact h hx
theorem cut_code (s : Bs) : (Lib.cut s [35]).1 = codeF s := by
 unfold Lib.cut
 rcases ixb_cases 35 s with ⟨h1, h2⟩ | ⟨a, r, h1, h2, h3⟩
 ·rw [h2, if_neg (by decide), code_no h1]
 ·rw [h3, if_pos (by omega), h1, code_cut h2]
  simp
theorem contains_one (c : UInt8) (s : Bs) : Lib.contains s [c] = decide (c ∈ s) := by
 unfold Lib.contains
 rcases ixb_cases c s with ⟨h1, h2⟩ | ⟨a, r, h1, h2, h3⟩
 ·rw [h2, decide_eq_false h1]; rfl
 ·rw [h3, decide_eq_true (show (0 : Int) ≤ a.length by omega), decide_eq_true (by rw [h1]; simp)]
theorem lines_no : ∀ {a : Bs}, (10 : UInt8) ∉ a → linesF a = [a]
  | [], _ => rfl
  | b :: a, h => by
    have hb : ¬ b = 10 := fun e => h (by simp [e])
    rw [linesF, if_neg hb, lines_no (a := a) (fun hm => h (List.mem_cons_of_mem _ hm))]
theorem lines_cut : ∀ {a r : Bs}, (10 : UInt8) ∉ a → linesF (a ++ 10 :: r) = a :: linesF r
  | [], r, _ => by simp [linesF]
  | b :: a, r, h => by
    have hb : ¬ b = 10 := fun e => h (by simp [e])
    rw [List.cons_append, linesF, if_neg hb, lines_cut (a := a) (fun hm => h (List.mem_cons_of_mem _ hm))]
theorem countFrom_one (c : UInt8) : ∀ (fuel : Nat) (s : Bs), s.length < fuel → Lib.countFrom [c] fuel s = s.count c
  | 0, s, h => by omega
  | fuel + 1, s, h => by
    rw [Lib.countFrom]
    rcases ixb_cases c s with ⟨h1, h2⟩ | ⟨a, r, h1, h2, h3⟩
    · rw [h2, List.count_eq_zero.2 h1]; rfl
    · have hne : ((a.length : Int) == -1) = false := by rw [beq_eq_false_iff_ne]; omega
      have hd : s.drop (a.length + 1) = r := by rw [h1]; simp
      rw [h3, hne]
      simp only [Bool.false_eq_true, if_false, Int.toNat_natCast, List.length_cons, List.length_nil, Nat.zero_add]
      rw [hd, countFrom_one c fuel r (by rw [h1] at h; simp at h; omega), h1, List.count_append, List.count_eq_zero.2 h2, List.count_cons_self]
      omega
theorem split_lines : ∀ (n : Nat) (s : Bs), s.count 10 ≤ n → Lib.splitK [10] 0 n s = linesF s
  | 0, s, h => by
    rw [lines_no (List.count_eq_zero.1 (by omega))]
    rfl
  | n + 1, s, h => by
    rw [Lib.splitK]
    rcases ixb_cases 10 s with ⟨h1, h2⟩ | ⟨a, r, h1, h2, h3⟩
    · rw [h2, lines_no h1]; rfl
    · have hne : ((a.length : Int) == -1) = false := by rw [beq_eq_false_iff_ne]; omega
      have hd : s.drop (a.length + 1) = r := by rw [h1]; simp
      have ht : s.take a.length = a := by rw [h1]; simp
      rw [h3, hne]
      simp only [Bool.false_eq_true, if_false, Int.toNat_natCast, List.length_cons, List.length_nil, Nat.zero_add, Nat.add_zero]
      rw [hd, ht, split_lines n r (by rw [h1, List.count_append, List.count_cons_self] at h; omega), h1, lines_cut h2]
theorem lines_split (s : Bs) : (Lib.splitB ⟨#[10]⟩ 0 (Lib.countB ⟨s.toArray⟩ ⟨#[10]⟩) ⟨s.toArray⟩).map (·.data.toList) = linesF s := by
 rw [Lib.splitB_data]
 refine split_lines _ _ ?_
 have : Lib.countB ⟨s.toArray⟩ ⟨#[10]⟩ = Lib.count s [10] := rfl
 rw [this, Lib.count, countFrom_one 10 _ _ (by omega)]
 exact Nat.le_refl _
theorem lines_len (s : Bs) : (linesF s).length = s.count 10 + 1 := by
  induction s with
  | nil => rfl
  | cons b s ih =>
    rw [linesF]
    split
    · rename_i h
      subst h
      rw [List.length_cons, ih, List.count_cons_self]
    · rename_i h
      rw [List.count_cons_of_ne (by simpa using h)]
      split
      · rename_i e
        rw [e] at ih
        simp at ih
      · rename_i x t e
        rw [e] at ih
        simpa using ih
theorem lines_short (s : Bs) : ∀ x ∈ linesF s, x.length ≤ s.length := by
  induction s with
  | nil => intro x hx; simp [linesF] at hx; simp [hx]
  | cons b s ih =>
    intro x hx
    rw [linesF] at hx
    split at hx
    · rcases List.mem_cons.1 hx with rfl | hx
      · simp
      · have := ih x hx; simp; omega
    · split at hx
      · rw [List.mem_singleton.1 hx]; simp
      · rename_i y t e
        rcases List.mem_cons.1 hx with rfl | hx
        · have := ih y (by rw [e]; exact List.mem_cons_self); simp; omega
        · have := ih x (by rw [e]; exact List.mem_cons_of_mem _ hx); simp; omega
theorem fields_sum (s : Bs) : wsum (fieldsF s) ≤ s.length + 1 := by
 have h1 : (codeF s).length ≤ s.length := (List.takeWhile_prefix _).length_le
 have h2 : wsum (fieldsF s) ≤ wsum (Cs.cutF (codeF s)) := wsum_filter (Cs.cutF (codeF s)) _
 rw [wsum_cut] at h2
 omega
end Dd
end Go.Proofs.YtcbeefbefapicaaGreatDoor

namespace Go.Proofs
open Go.Shelf
def Tryz.lays229_ren : Go.Shelf.Ren := ⟨fun | 229 => 108 | n => n, fun | 9 => 9 | 40 => 162 | 31 => 23 | 152 => 175 | 3 => 3 | 0 => 0 | 4 => 4 | 21 => 21 | 154 => 177 | n => n, fun | n => n⟩
theorem Tryz.lays229 : Go.Proofs.Lays.n229 Tryz.prog Tryz.lays229_ren := {
 mixed := by kernel_rfl
 f229 := Tryz.func108.trans (congrArg some (by kernel_rfl))
 t0 := Tryz.underlying0
 a0 := Tryz.isAgg0
 z0 := Tryz.sizeOf0
 v0 := Tryz.zeroValue0
 t3 := Tryz.underlying3
 a3 := Tryz.isAgg3
 z3 := Tryz.sizeOf3
 v3 := Tryz.zeroValue3
 t4 := Tryz.underlying4
 a4 := Tryz.isAgg4
 z4 := Tryz.sizeOf4
 v4 := Tryz.zeroValue4
 t9 := Tryz.underlying9
 a9 := Tryz.isAgg9
 z9 := Tryz.sizeOf9
 v9 := Tryz.zeroValue9
 t21 := Tryz.underlying21
 a21 := Tryz.isAgg21
 z21 := Tryz.sizeOf21
 v21 := Tryz.zeroValue21
 t31 := Tryz.underlying23
 a31 := Tryz.isAgg23
 z31 := Tryz.sizeOf23
 v31 := Tryz.zeroValue23
 t40 := Tryz.underlying162
 a40 := Tryz.isAgg162
 z40 := Tryz.sizeOf162
 v40 := Tryz.zeroValue162
 t152 := Tryz.underlying175
 a152 := Tryz.isAgg175
 z152 := Tryz.sizeOf175
 v152 := Tryz.zeroValue175
 t154 := Tryz.underlying177
 a154 := Tryz.isAgg177
 z154 := Tryz.sizeOf177
 v154 := Tryz.zeroValue177 }
open Go.RowKit Go.Sort Go.Lib in
theorem Tryz.strings_FieldsFunc_runes (g : Nat) (lb : Array Value) (eg : ∀ args w, (callFunc g args).run Tryz.prog w = .ok (.enter g args) w) (p : Nat → Bool) (s : ByteArray) (w : World) (hs : s.size ≤ 4294967296) (hp : PredAtRunes Tryz.prog g lb p w) :
  Calls Tryz.prog 108 #[.string s, .func (.func g) #[] lb] w fun e w' => ∃ A, e = .returned (.slice (some ⟨A, 0, none⟩) (Lib.goFieldsP p s).length (Lib.goFieldsP p s).length) ∧ w.heap.size ≤ A ∧
   w'.ownsRow w.heap.size 9 1 (.slice (some ⟨A, 0, none⟩) (Lib.goFieldsP p s).length (Lib.goFieldsP p s).length) (Lib.goFieldsP p s).length ((Lib.goFieldsP p s).map Value.string) ∧ Below w.heap.size w w' := Any.strings_FieldsFunc_runes Tryz.lays229 g lb eg p s w hs hp (by kernel_rfl) (by kernel_rfl)
def Tryz.lays145_ren : Go.Shelf.Ren := ⟨fun | 145 => 107 | 220 => 134 | 219 => 128 | 217 => 148 | 225 => 149 | 224 => 150 | 267 => 151 | 266 => 166 | 314 => 167 | n => n, fun | 9 => 9 | 4 => 4 | 59 => 159 | 3 => 3 | 5 => 5 | 46 => 196 | 146 => 208 | 51 => 207 | n => n, fun | 1 => 0 | n => n⟩
theorem Tryz.lays145 : Go.Proofs.Lays.n145 Tryz.prog Tryz.lays145_ren := {
 mixed := by kernel_rfl
 f145 := Tryz.func107.trans (congrArg some (by kernel_rfl))
 f217 := Tryz.func148.trans (congrArg some (by kernel_rfl))
 f219 := Tryz.func128.trans (congrArg some (by kernel_rfl))
 f220 := Tryz.func134.trans (congrArg some (by kernel_rfl))
 f224 := Tryz.func150.trans (congrArg some (by kernel_rfl))
 f225 := Tryz.func149.trans (congrArg some (by kernel_rfl))
 f266 := Tryz.func166.trans (congrArg some (by kernel_rfl))
 f267 := Tryz.func151.trans (congrArg some (by kernel_rfl))
 f314 := Tryz.func167.trans (congrArg some (by kernel_rfl))
 t3 := Tryz.underlying3
 a3 := Tryz.isAgg3
 z3 := Tryz.sizeOf3
 v3 := Tryz.zeroValue3
 t4 := Tryz.underlying4
 a4 := Tryz.isAgg4
 z4 := Tryz.sizeOf4
 v4 := Tryz.zeroValue4
 t5 := Tryz.underlying5
 a5 := Tryz.isAgg5
 z5 := Tryz.sizeOf5
 v5 := Tryz.zeroValue5
 t9 := Tryz.underlying9
 a9 := Tryz.isAgg9
 z9 := Tryz.sizeOf9
 v9 := Tryz.zeroValue9
 t46 := Tryz.underlying196
 a46 := Tryz.isAgg196
 z46 := Tryz.sizeOf196
 v46 := Tryz.zeroValue196
 t51 := Tryz.underlying207
 a51 := Tryz.isAgg207
 z51 := Tryz.sizeOf207
 v51 := Tryz.zeroValue207
 t59 := Tryz.underlying159
 a59 := Tryz.isAgg159
 z59 := Tryz.sizeOf159
 v59 := Tryz.zeroValue159
 t146 := Tryz.underlying208
 a146 := Tryz.isAgg208
 z146 := Tryz.sizeOf208
 v146 := Tryz.zeroValue208
 g1 := by kernel_rfl }
open Go.RowKit Go.Sort Go.Lib in
theorem Tryz.strings_Cut (s sep : ByteArray) (m : Int) (w : World) (hs : s.size < 4294967281) (hm : w.cell? ⟨0, 0, none⟩ = some (.int .i64 m)) :
  Calls Tryz.prog 107 #[.string s, .string sep] w fun e w' => e = .returned (.tuple #[.string ⟨(Lib.cut s.data.toList sep.data.toList).1.toArray⟩, .string ⟨(Lib.cut s.data.toList sep.data.toList).2.1.toArray⟩, .bool (Lib.cut s.data.toList sep.data.toList).2.2]) ∧ ∃ n, w' = w.drewN n := Any.strings_Cut Tryz.lays145 s sep m w hs hm
def Tryz.lays144_ren : Go.Shelf.Ren := ⟨fun | 144 => 60 | 143 => 102 | 219 => 128 | 217 => 148 | 225 => 149 | 224 => 150 | 267 => 151 | 266 => 166 | 314 => 167 | n => n, fun | 9 => 9 | 4 => 4 | 3 => 3 | 5 => 5 | 46 => 196 | 146 => 208 | 51 => 207 | n => n, fun | 1 => 0 | n => n⟩
theorem Tryz.lays144 : Go.Proofs.Lays.n144 Tryz.prog Tryz.lays144_ren := {
 mixed := by kernel_rfl
 f143 := Tryz.func102.trans (congrArg some (by kernel_rfl))
 f144 := Tryz.func60.trans (congrArg some (by kernel_rfl))
 f217 := Tryz.func148.trans (congrArg some (by kernel_rfl))
 f219 := Tryz.func128.trans (congrArg some (by kernel_rfl))
 f224 := Tryz.func150.trans (congrArg some (by kernel_rfl))
 f225 := Tryz.func149.trans (congrArg some (by kernel_rfl))
 f266 := Tryz.func166.trans (congrArg some (by kernel_rfl))
 f267 := Tryz.func151.trans (congrArg some (by kernel_rfl))
 f314 := Tryz.func167.trans (congrArg some (by kernel_rfl))
 t3 := Tryz.underlying3
 a3 := Tryz.isAgg3
 z3 := Tryz.sizeOf3
 v3 := Tryz.zeroValue3
 t4 := Tryz.underlying4
 a4 := Tryz.isAgg4
 z4 := Tryz.sizeOf4
 v4 := Tryz.zeroValue4
 t5 := Tryz.underlying5
 a5 := Tryz.isAgg5
 z5 := Tryz.sizeOf5
 v5 := Tryz.zeroValue5
 t9 := Tryz.underlying9
 a9 := Tryz.isAgg9
 z9 := Tryz.sizeOf9
 v9 := Tryz.zeroValue9
 t46 := Tryz.underlying196
 a46 := Tryz.isAgg196
 z46 := Tryz.sizeOf196
 v46 := Tryz.zeroValue196
 t51 := Tryz.underlying207
 a51 := Tryz.isAgg207
 z51 := Tryz.sizeOf207
 v51 := Tryz.zeroValue207
 t146 := Tryz.underlying208
 a146 := Tryz.isAgg208
 z146 := Tryz.sizeOf208
 v146 := Tryz.zeroValue208
 g1 := by kernel_rfl }
open Go.RowKit Go.Sort Go.Lib in
theorem Tryz.strings_Contains (s sub : ByteArray) (m : Int) (w : World) (hs : s.size < 4294967281) (hm : w.cell? ⟨0, 0, none⟩ = some (.int .i64 m)) :
  Calls Tryz.prog 60 #[.string s, .string sub] w fun e w' => e = .returned (.bool (Lib.contains s.data.toList sub.data.toList)) ∧ w' = w := Any.strings_Contains Tryz.lays144 s sub m w hs hm
def Tryz.lays146_ren : Go.Shelf.Ren := ⟨fun | 146 => 98 | 221 => 127 | 268 => 146 | 138 => 147 | 143 => 102 | 195 => 163 | 197 => 164 | 218 => 165 | 219 => 128 | 260 => 180 | 217 => 148 | 225 => 149 | 224 => 150 | 267 => 151 | 266 => 166 | 314 => 167 | n => n, fun | 9 => 9 | 31 => 23 | 3 => 3 | 4 => 4 | 0 => 0 | 105 => 205 | 21 => 21 | 5 => 5 | 46 => 196 | 119 => 244 | 139 => 247 | 138 => 246 | 146 => 208 | 51 => 207 | n => n, fun | 1 => 0 | 3 => 3 | 4 => 4 | n => n⟩
theorem Tryz.lays146 : Go.Proofs.Lays.n146 Tryz.prog Tryz.lays146_ren := {
 mixed := by kernel_rfl
 f138 := Tryz.func147.trans (congrArg some (by kernel_rfl))
 f143 := Tryz.func102.trans (congrArg some (by kernel_rfl))
 f146 := Tryz.func98.trans (congrArg some (by kernel_rfl))
 f195 := Tryz.func163.trans (congrArg some (by kernel_rfl))
 f197 := Tryz.func164.trans (congrArg some (by kernel_rfl))
 f217 := Tryz.func148.trans (congrArg some (by kernel_rfl))
 f218 := Tryz.func165.trans (congrArg some (by kernel_rfl))
 f219 := Tryz.func128.trans (congrArg some (by kernel_rfl))
 f221 := Tryz.func127.trans (congrArg some (by kernel_rfl))
 f224 := Tryz.func150.trans (congrArg some (by kernel_rfl))
 f225 := Tryz.func149.trans (congrArg some (by kernel_rfl))
 f260 := Tryz.func180.trans (congrArg some (by kernel_rfl))
 f266 := Tryz.func166.trans (congrArg some (by kernel_rfl))
 f267 := Tryz.func151.trans (congrArg some (by kernel_rfl))
 f268 := Tryz.func146.trans (congrArg some (by kernel_rfl))
 f314 := Tryz.func167.trans (congrArg some (by kernel_rfl))
 t0 := Tryz.underlying0
 a0 := Tryz.isAgg0
 z0 := Tryz.sizeOf0
 v0 := Tryz.zeroValue0
 t3 := Tryz.underlying3
 a3 := Tryz.isAgg3
 z3 := Tryz.sizeOf3
 v3 := Tryz.zeroValue3
 t4 := Tryz.underlying4
 a4 := Tryz.isAgg4
 z4 := Tryz.sizeOf4
 v4 := Tryz.zeroValue4
 t5 := Tryz.underlying5
 a5 := Tryz.isAgg5
 z5 := Tryz.sizeOf5
 v5 := Tryz.zeroValue5
 t9 := Tryz.underlying9
 a9 := Tryz.isAgg9
 z9 := Tryz.sizeOf9
 v9 := Tryz.zeroValue9
 t21 := Tryz.underlying21
 a21 := Tryz.isAgg21
 z21 := Tryz.sizeOf21
 v21 := Tryz.zeroValue21
 t31 := Tryz.underlying23
 a31 := Tryz.isAgg23
 z31 := Tryz.sizeOf23
 v31 := Tryz.zeroValue23
 t46 := Tryz.underlying196
 a46 := Tryz.isAgg196
 z46 := Tryz.sizeOf196
 v46 := Tryz.zeroValue196
 t51 := Tryz.underlying207
 a51 := Tryz.isAgg207
 z51 := Tryz.sizeOf207
 v51 := Tryz.zeroValue207
 t105 := Tryz.underlying205
 a105 := Tryz.isAgg205
 z105 := Tryz.sizeOf205
 v105 := Tryz.zeroValue205
 t119 := Tryz.underlying244
 a119 := Tryz.isAgg244
 z119 := Tryz.sizeOf244
 t138 := Tryz.underlying246
 a138 := Tryz.isAgg246
 z138 := Tryz.sizeOf246
 v138 := Tryz.zeroValue246
 t139 := Tryz.underlying247
 a139 := Tryz.isAgg247
 z139 := Tryz.sizeOf247
 v139 := Tryz.zeroValue247
 t146 := Tryz.underlying208
 a146 := Tryz.isAgg208
 z146 := Tryz.sizeOf208
 v146 := Tryz.zeroValue208
 g1 := by kernel_rfl
 g3 := by kernel_rfl
 g4 := by kernel_rfl }
open Go.RowKit Go.Sort Go.Lib in
theorem Tryz.strings_Split (s sep : ByteArray) (m : Int) (w : World) (hs : s.size < 4294967281) (hm : w.cell? ⟨0, 0, none⟩ = some (.int .i64 m)) (h1 : 1 ≤ sep.size) :
  Calls Tryz.prog 98 #[.string s, .string sep] w fun e w' =>
   e = .returned (.slice (some ⟨w.heap.size, 0, none⟩) (Lib.countB s sep + 1) (Lib.countB s sep + 1)) ∧ w' = w.alloc (.cells ((Lib.splitB sep 0 (Lib.countB s sep) s).map Value.string).toArray 9) := Any.strings_Split Tryz.lays146 (by kernel_rfl) s sep m w hs hm h1
end Go.Proofs

namespace Go.Proofs.YtcbeefbefapicaaGreatDoor
open Go.RowKit
set_option maxRecDepth 100000
theorem isYear_any (y : Int) (w : World) : Calls Tryz.prog 59 #[.int .i64 y] w fun e w' => e = .returned (.bool (decide (1 ≤ y ∧ y ≤ 3000))) ∧ Below w.heap.size w w' := by
 have H0 := Lib.hid (fun W => dbetween_any 1 y 3000 W)
 obtain ⟨R, hR⟩ : ∃ R, decide (1 ≤ y ∧ y ≤ 3000) = R := ⟨_, rfl⟩
 rw [hR] at H0 ⊢
 clear hR
 go_enter Tryz.func59, Tryz.ntmps59
 go_wp2_with fail
 refine (H0.out _).mono ?_
 rintro e w' ⟨rfl, rfl⟩
 go_wp2_with fail
 go_ret
 exact ⟨rfl, Below.refl _ _⟩
theorem blank_any (r : Int) (w : World) : Calls Tryz.prog 109 #[.int .i32 r] w fun e w' => e = .returned (.bool (r == 32)) ∧ w' = w := by
 go_enter Tryz.func109, Tryz.ntmps109
 go_wp2_with fail
 go_ret
 exact ⟨rfl, rfl⟩
theorem drewN_below (B : Nat) (w : World) (n : Nat) : Below B w (w.drewN n) := ⟨rfl, rfl, rfl, Nat.le_refl _, fun _ _ => rfl⟩
set_option maxHeartbeats 4000000 in
theorem wordsOf_any (s : Cs.Bs) (hs : s.length ≤ 999999) (w : World) (hE : Env w) :
  Calls Tryz.prog 64 #[.string ⟨s.toArray⟩] w fun e w' => ∃ b, w.heap.size ≤ b ∧ e = .returned (.pointer (some ⟨b, 0, none⟩)) ∧ Wz w' b (Dd.fieldsF s) ∧ Below w.heap.size w w' := by
 obtain ⟨m, hm⟩ := hE.mx
 have hg := hE.gl
 have HC := Lib.hid (Tryz.strings_Cut ⟨s.toArray⟩ ⟨#[35]⟩ m w (by simp [ByteArray.size]; omega) hm)
 have hcut : (Lib.cut s [35]).1 = Dd.codeF s := Dd.cut_code s
 have hcl : (Dd.codeF s).length ≤ s.length := (List.takeWhile_prefix _).length_le
 have hsum := Dd.fields_sum s
 have hP : ∀ W, PredAtRunes Tryz.prog 109 #[] (fun r => decide (r = 32)) W := by
  intro W V x hx hb
  refine (blank_any (x : Int) _).mono ?_
  rintro e w' ⟨rfl, rfl⟩
  refine ⟨?_, 0, rfl⟩
  congr 2
  by_cases h : x = 32
  ·subst h; rfl
  ·have h2 : ¬ (x : Int) = 32 := by omega
   simp [h, h2]
 have HF := Lib.hid (fun W => Tryz.strings_FieldsFunc_runes 109 #[] (enters_of Tryz.func109 (by kernel_rfl) rfl) (fun r => decide (r = 32)) ⟨(Dd.codeF s).toArray⟩ W (by simp [ByteArray.size]; omega) (hP W))
 have hgo : Lib.goFieldsP (fun r => decide (r = 32)) ⟨(Dd.codeF s).toArray⟩ = (Dd.fieldsF s).map Dd.bat := Dd.goFields_blank (Dd.codeF s)
 rw [hgo] at HF
 obtain ⟨X, hX⟩ : ∃ X, Lib.cut s [35] = X := ⟨_, rfl⟩
 rw [hX] at hcut
 simp only [] at HC
 rw [hX, hcut] at HC
 obtain ⟨FL, hFL⟩ : ∃ FL, Dd.fieldsF s = FL := ⟨_, rfl⟩
 rw [hFL] at HF hsum ⊢
 obtain ⟨CF, hCF⟩ : ∃ CF, Dd.codeF s = CF := ⟨_, rfl⟩
 rw [hCF] at HC HF
 simp only [List.length_map] at HF
 have HSUM := Lib.hid hsum
 clear hgo hP hcut hX hFL hCF hcl hsum hm hE
 go_enter Tryz.func64, Tryz.ntmps64
 go_wp2_with fail
 refine HC.out.mono ?_
 rintro e w1 ⟨rfl, n, rfl⟩
 go_wp2_with fail
 refine (HF.out _).mono ?_
 rintro e w2 ⟨A, rfl, hA, hown, hb⟩
 have HB := Lib.hid ((drewN_below w.heap.size w n).trans hb)
 have HO := Lib.hid hown
 clear hown hb
 go_wp2_with fail
 go_ret
 refine ⟨w2.heap.size, HB.out.size, rfl, ⟨⟨some ⟨A, 0, none⟩, FL.length, ?_, ?_, Nat.le_refl _⟩, by have := HSUM.out; omega, by have := HB.out.size; omega⟩, HB.out.alloc HB.out.size _⟩
 ·exact Bk.new _ _ _
 ·obtain ⟨A', c', e1, hr, _⟩ := ownB_rd HO.out HO.out.1
  injection e1 with e2
  subst e2
  have hxs : (FL.map Dd.bat).map Value.string = wcells FL := by simp [wcells, sv, Dd.bat]
  rw [hxs] at hr
  exact hr.below ((Below.refl _ _).alloc (Nat.le_refl _) _) (Nat.le_refl _)
end Go.Proofs.YtcbeefbefapicaaGreatDoor

namespace Go.Proofs.YtcbeefbefapicaaGreatDoor
open Go.RowKit
set_option maxRecDepth 100000
def deval (d : Dd.De) (A : Option Addr) (c : Nat) : Value := .agg #[.string ⟨d.name.toArray⟩, .int .i64 d.year, .int .i64 d.rank, .slice A d.calls.length c]
theorem deval_def (d : Dd.De) (A : Option Addr) (c : Nat) : deval d A c = .agg #[.string ⟨d.name.toArray⟩, .int .i64 d.year, .int .i64 d.rank, .slice A d.calls.length c] := rfl
set_option maxHeartbeats 4000000 in
theorem isDated_any (d : Dd.De) (A : Option Addr) (c : Nat) (w : World) : Calls Tryz.prog 136 #[deval d A c] w fun e w' => e = .returned (.bool (Dd.dated d)) ∧ Below w.heap.size w w' := by
 have hd : Dd.dated d = (decide (1 ≤ d.year ∧ d.year ≤ 3000) && decide (0 ≤ d.rank ∧ d.rank ≤ 1000)) := rfl
 rw [hd, deval_def]
 obtain ⟨name, year, rank, calls⟩ := d
 dsimp only
 have H0 := Lib.hid (fun W => isYear_any year W)
 have H1 := Lib.hid (fun W => dbetween_any 0 rank 1000 W)
 have hB : ∀ o, Below w.heap.size w (w.alloc o) := fun o => (Below.refl _ _).alloc (Nat.le_refl _) o
 have K := Lib.hid (fun W (hb : Below (w.heap.size + 1) (w.alloc (.cells #[.string ⟨name.toArray⟩, .int .i64 year, .int .i64 rank, .slice A calls.length c] 180)) W) => ((Bk.new w 180 #[.string ⟨name.toArray⟩, .int .i64 year, .int .i64 rank, .slice A calls.length c]).below hb (Nat.lt_succ_self _)).cell 2)
 have HB := Lib.hid hB
 obtain ⟨y, hy⟩ : ∃ y, decide (1 ≤ year ∧ year ≤ 3000) = y := ⟨_, rfl⟩
 obtain ⟨z, hz⟩ : ∃ z, decide (0 ≤ rank ∧ rank ≤ 1000) = z := ⟨_, rfl⟩
 rw [hy] at H0 ⊢
 rw [hz] at H1 ⊢
 clear hy hz hB hd
 rcases y with _ | _
 ·go_enter Tryz.func136, Tryz.ntmps136
  go_wp2_with fail
  refine (H0.out _).mono ?_
  rintro e w1 ⟨rfl, hb⟩
  have HB1 := Lib.hid ((HB.out _).trans (hb.mono (HB.out _).size))
  clear hb
  go_wp2_with fail
  go_ret
  exact ⟨rfl, HB1.out⟩
 ·go_enter Tryz.func136, Tryz.ntmps136
  go_wp2_with fail
  refine (H0.out _).mono ?_
  rintro e w1 ⟨rfl, hb⟩
  have HB1 := Lib.hid ((HB.out _).trans (hb.mono (HB.out _).size))
  have c2 := (K.out _ (by simpa using hb)).trans rfl
  clear hb
  go_wp2_with fail
  refine (H1.out _).mono ?_
  rintro e w2 ⟨rfl, rfl⟩
  go_wp2_with fail
  go_ret
  exact ⟨rfl, HB1.out⟩
set_option maxHeartbeats 1000000 in
theorem deedName_any (d : Dd.De) (A : Option Addr) (c : Nat) (w : World) : Calls Tryz.prog 138 #[deval d A c] w fun e w' => e = .returned (.string ⟨d.name.toArray⟩) ∧ Below w.heap.size w w' := by
 rw [deval_def]
 have HB := Lib.hid (fun o => (Below.refl w.heap.size w).alloc (Nat.le_refl _) o)
 go_enter Tryz.func138, Tryz.ntmps138
 go_wp2_with fail
 go_ret
 exact ⟨rfl, HB.out _⟩
end Go.Proofs.YtcbeefbefapicaaGreatDoor

namespace Go.Proofs.YtcbeefbefapicaaGreatDoor
open Go.RowKit
set_option maxRecDepth 100000
structure Step {σ : Type} (kf : Nat) (first capS : Array Value) (Inv : Nat → σ → (Nat → Prop) → World → Prop) (step : σ → List Cs.Bs → Int × σ) (B0 : Nat) : Prop where
 ent : ∀ args w, (callFunc kf args).run Tryz.prog w = .ok (.enter kf args) w
 keep : ∀ m s R V V' X, Inv m s R V → But X V V' → (∀ k, X k → ¬ R k ∧ B0 ≤ k) → Inv m s R V'
 low : ∀ m s R V, Inv m s R V → ∀ k, R k → 9 ≤ k ∧ k < V.heap.size
 step : ∀ m s R V b ws, m ≤ 1000000 → Inv m s R V → Wz V b ws → ws ≠ [] → ¬ R b → B0 ≤ b → Env V → Calls Tryz.prog kf (first ++ #[.pointer (some ⟨b, 0, none⟩)] ++ capS) V fun e V' =>
  But (fun k => k = b ∨ R k) V V' ∧ (((step s ws).1 = 0 ∧ e = .returned (.tuple #[]) ∧ ∃ R', Inv (m + 1) (step s ws).2 R' V' ∧ ∀ k, R' k → R k ∨ V.heap.size ≤ k) ∨ ((step s ws).1 ≠ 0 ∧ e = .panicked [pan (step s ws).1]))
set_option maxHeartbeats 2000000 in
theorem readLines1_any {Q : Ending → World → Prop} (kf : Nat) (first capS : Array Value) (ent : ∀ args w, (callFunc kf args).run Tryz.prog w = .ok (.enter kf args) w) (g gt b : Nat) (V : World) (kg : Bk V g 108 #[.func (.func kf) first capS]) (kt : Bk V gt 104 #[.pointer (some ⟨b, 0, none⟩)])
  (h : Calls Tryz.prog kf (first ++ #[.pointer (some ⟨b, 0, none⟩)] ++ capS) V fun e V' => (e = .returned (.tuple #[]) ∨ ∃ n, e = .panicked [pan n]) ∧ Q e V') :
  Calls Tryz.prog 99 #[.pointer (some ⟨g, 0, none⟩), .pointer (some ⟨gt, 0, none⟩)] V Q := by
 have c0 := (kg.cell 0).trans rfl
 have c1 := (kt.cell 0).trans rfl
 have H := Lib.hid h
 clear h kg kt
 go_enter Tryz.func99, Tryz.ntmps99
 go_wp2_with fail
 refine H.out.mono ?_
 rintro e V' ⟨(rfl | ⟨n, rfl⟩), hq⟩
 ·have HQ := Lib.hid hq
  clear hq
  go_wp2_with fail
  go_end0
  exact HQ.out
 ·have HQ := Lib.hid hq
  clear hq
  go_wp2_with fail
  exact ⟨rfl, HQ.out⟩
theorem But.new_set' {X : Nat → Prop} {w w' : World} (h : But X w w') {p : Addr} (hp : w.heap.size ≤ p.block) (u : Value) : But X w (w'.setCell p u) :=
 ⟨h.os, h.tape, h.output, by have := h.size; simpa [World.setCell] using this, fun k hk hx => (Below.heap_setCell _ _ _ _ (by omega)).trans (h.block k hk hx)⟩
theorem But.new_row {X : Nat → Prop} {w w' : World} (h : But X w w') {g : Nat} (hg : w.heap.size ≤ g) (cs : Array Value) : But X w (w'.setRow g cs) :=
 ⟨h.os, h.tape, h.output, by rw [size_setRow]; exact h.size, fun k hk hx => by
  simp only [World.setRow, Array.getElem?_modify]
  rw [if_neg (by omega)]
  exact h.block k hk hx⟩
def Dd.sourceG {σ : Type} (step : σ → List Cs.Bs → Int × σ) (s : σ) (src : Cs.Bs) : (Int × Int) × σ := if 20000 < src.length then ((2, 0), s) else Dd.linesG step s (Dd.linesF src) 1
structure Lp {σ : Type} (kf : Nat) (first capS : Array Value) (Inv : Nat → σ → (Nat → Prop) → World → Prop) (R0 : Nat → Prop) (w w1 : World) (lines : List Cs.Bs) (m : Nat) (s : σ) (R : Nat → Prop) (W : World) : Prop where
 but : But R0 w W
 inv : Inv m s R W
 hR : ∀ x, R x → R0 x ∨ w1.heap.size ≤ x
 kF : Bk W w.heap.size 108 #[.func (.func kf) first capS]
 kR : Bk W (w.heap.size + 1) 68 #[.int .i64 0, .int .i64 0]
 ln : Rd W w1.heap.size 1 (some ⟨w.heap.size + 1 + 1, 0, none⟩) lines.length (wcells lines)
 env : Env W
 sz : w1.heap.size ≤ W.heap.size
section
variable {σ : Type} {kf : Nat} {first capS : Array Value} {Inv : Nat → σ → (Nat → Prop) → World → Prop} {R0 : Nat → Prop} {w w1 : World} {lines : List Cs.Bs} {m m' : Nat} {s s' : σ} {R R' : Nat → Prop} {W W' : World} {step : σ → List Cs.Bs → Int × σ}
theorem Lp.next (h : Lp kf first capS Inv R0 w w1 lines m s R W) (S : Step kf first capS Inv step w.heap.size) (hb : Below W.heap.size W W') : Lp kf first capS Inv R0 w w1 lines m s R W' :=
 ⟨h.but.trans (But.of hb), S.keep _ _ _ _ _ (fun _ => False) h.inv (But.of hb) (fun k hk => hk.elim), h.hR, h.kF.below hb h.kF.lt, h.kR.below hb h.kR.lt, h.ln.below hb h.sz, h.env.step hb, Nat.le_trans h.sz hb.size⟩
theorem Lp.change {X : Nat → Prop} (h : Lp kf first capS Inv R0 w w1 lines m s R W) (hz : w1.heap.size = w.heap.size + 1 + 1 + 1) (hr0 : ∀ k, R0 k → 9 ≤ k ∧ k < w.heap.size) (h9 : 9 ≤ w.heap.size)
  (hb : But X W W') (hX : ∀ k, X k → R0 k ∨ w1.heap.size ≤ k) (hi : Inv m' s' R' W') (hR' : ∀ x, R' x → R0 x ∨ w1.heap.size ≤ x) : Lp kf first capS Inv R0 w w1 lines m' s' R' W' := by
 have hg : ∀ g, w.heap.size ≤ g → g < w1.heap.size → ¬ X g := fun g h1 h2 hx => by
  rcases hX g hx with h | h
  ·have := hr0 g h; omega
  ·omega
 have hsz := h.but.size
 refine ⟨?_, hi, hR', hb.bk h.kF (hg _ (Nat.le_refl _) (by omega)), hb.bk h.kR (hg _ (by omega) (by omega)), h.ln.keep' hb (fun _ => hg _ (by omega) (by omega)), h.env.but hb (fun k hk => by rcases hX k hk with h | h; exact (hr0 k h).1; omega), Nat.le_trans h.sz hb.size⟩
 exact ⟨hb.os.trans h.but.os, hb.tape.trans h.but.tape, hb.output.trans h.but.output, Nat.le_trans hsz hb.size, fun k hk hx => (hb.block k (Nat.lt_of_lt_of_le hk hsz) (fun hx2 => by
  rcases hX k hx2 with h | h
  ·exact hx h
  ·omega)).trans (h.but.block k hk hx)⟩
theorem Lp.row (h : Lp kf first capS Inv R0 w w1 lines m s R W) (hz : w1.heap.size = w.heap.size + 1 + 1 + 1) (hr0 : ∀ k, R0 k → 9 ≤ k ∧ k < w.heap.size) (cs : Array Value) : But R0 w (W.setRow (w.heap.size + 1) cs) ∧ But (fun x => x = w.heap.size + 1) W (W.setRow (w.heap.size + 1) cs) ∧ ∀ k, k = w.heap.size + 1 → ¬ R k ∧ w.heap.size ≤ k := by
 have h2 := But.row (X := fun x => x = w.heap.size + 1) (But.refl _ W) rfl cs
 refine ⟨⟨h2.os.trans h.but.os, h2.tape.trans h.but.tape, h2.output.trans h.but.output, Nat.le_trans h.but.size h2.size, fun k hk hx => (h2.block k (Nat.lt_of_lt_of_le hk h.but.size) (by omega)).trans (h.but.block k hk hx)⟩, h2, fun k hk => ⟨fun hr => ?_, by omega⟩⟩
 rcases h.hR k hr with h3 | h3
 ·have := hr0 k h3; omega
 ·omega
end
set_option maxHeartbeats 16000000 in
theorem readLines_any {σ : Type} (kf : Nat) (first capS : Array Value) (Inv : Nat → σ → (Nat → Prop) → World → Prop) (step : σ → List Cs.Bs → Int × σ) (s0 : σ) (R0 : Nat → Prop) (w : World) (S : Step kf first capS Inv step w.heap.size) (hI : Inv 0 s0 R0 w) (hE : Env w) (src : Cs.Bs) (hs : src.length ≤ 999999) :
  Calls Tryz.prog 56 #[.string ⟨src.toArray⟩, .func (.func kf) first capS] w fun e w' =>
   e = .returned (.agg #[.int .i64 (Dd.sourceG step s0 src).1.1, .int .i64 (Dd.sourceG step s0 src).1.2]) ∧ But R0 w w' ∧ ((Dd.sourceG step s0 src).1 = (0, 0) → ∃ R' m, m ≤ 1000000 ∧ Inv m (Dd.sourceG step s0 src).2 R' w' ∧ ∀ k, R' k → R0 k ∨ w.heap.size ≤ k) := by
 have hmf : ∀ (fn : Fn) (first cap : Array Value) (w : World), (Instr.makeFunc fn first cap).run Tryz.prog w = .ok (.func fn first cap) w := fun _ _ _ _ => rfl
 have hr0 := S.low _ _ _ _ hI
 have h9 := hE.gl
 have hb0 := ((Below.refl w.heap.size w).alloc (Nat.le_refl _) (.cells #[.func (.func kf) first capS] 108)).alloc (by simp) (.cells #[.int .i64 0, .int .i64 0] 68)
 have k0 := (Bk.new w 108 #[.func (.func kf) first capS]).alloc (.cells #[.int .i64 0, .int .i64 0] 68)
 have k1 := Bk.new (w.alloc (.cells #[.func (.func kf) first capS] 108)) 68 #[.int .i64 0, .int .i64 0]
 rw [World.size_alloc] at k1
 have HB0 := Lib.hid hb0
 have K0 := Lib.hid k0
 have K1 := Lib.hid k1
 have HE0 := Lib.hid (hE.step hb0)
 have HS := Lib.hid S
 have HI := Lib.hid hI
 have HR0 := Lib.hid hr0
 by_cases hbig : 20000 < src.length
 ·have HG := Lib.hid (show Dd.sourceG step s0 src = ((2, 0), s0) by unfold Dd.sourceG; rw [if_pos hbig])
  rw [HG.out]
  have g1 : decide ((src.length : Int) > 20000) = true := decide_eq_true (by omega)
  have n0 := (k1.cell 0).trans rfl
  have n1 := (k1.cell 1).trans rfl
  have m0 := k1.frozen 0
  have m1 := k1.frozen 1
  have l1 := k1.lt
  clear S hI hE hr0 hb0 k0 k1 hbig
  go_enter Tryz.func56, Tryz.ntmps56
  go_wp2_with fail
  have kk := Bk.new (w.alloc (.cells #[.func (.func kf) first capS] 108)) 68 #[.int .i64 2, .int .i64 0]
  rw [World.size_alloc] at kk
  have hb2 := ((Below.refl w.heap.size w).alloc (Nat.le_refl _) (.cells #[.func (.func kf) first capS] 108)).alloc (by simp) (.cells #[.int .i64 2, .int .i64 0] 68)
  exact bodyPost_ret (results_cell_row1 rfl _ _ (w.heap.size + 1) 68 _ (0, 0) _ rfl kk Tryz.underlying68 rfl (by kernel_rfl)) rfl ⟨rfl, But.of hb2, fun h => by cases h⟩
 ·have hG : Dd.sourceG step s0 src = Dd.linesG step s0 (Dd.linesF src) 1 := by unfold Dd.sourceG; rw [if_neg hbig]
  rw [hG]
  have g1 : decide ((src.length : Int) > 20000) = false := decide_eq_false (by omega)
  obtain ⟨m, hm⟩ := HE0.out.mx
  have hsp := Tryz.strings_Split ⟨src.toArray⟩ ⟨#[10]⟩ m _ (by simp [ByteArray.size]; omega) hm (by decide)
  have hln := Dd.lines_split src
  have hlen := Dd.lines_len src
  have hcnt : Lib.countB ⟨src.toArray⟩ ⟨#[10]⟩ = src.count 10 := by
   have : Lib.countB ⟨src.toArray⟩ ⟨#[10]⟩ = Lib.count src [10] := rfl
   rw [this, Lib.count, Dd.countFrom_one 10 _ _ (by omega)]
  rw [hcnt] at hsp hln
  obtain ⟨L, hL⟩ : ∃ L, Lib.splitB ⟨#[10]⟩ 0 (src.count 10) ⟨src.toArray⟩ = L := ⟨_, rfl⟩
  rw [hL] at hsp hln
  have hcells : L.map Value.string = wcells (Dd.linesF src) := by rw [← hln]; simp [wcells, sv]
  rw [hcells, ← hlen] at hsp
  have hsh := Dd.lines_short src
  have hc2 : src.count 10 ≤ src.length := List.count_le_length
  obtain ⟨lines, hlines⟩ : ∃ l, Dd.linesF src = l := ⟨_, rfl⟩
  rw [hlines] at hsp hlen hsh ⊢
  have hn : lines.length ≤ 1000000 := by omega
  have hshort : ∀ x ∈ lines, x.length ≤ 999999 := fun x hx => by have := hsh x hx; omega
  have HSP := Lib.hid hsp
  have HSH := Lib.hid hshort
  clear S hI hE hr0 hb0 k0 k1 hbig hG hm hsp hln hlen hcnt hL hcells hsh hc2 hlines hshort L m
  go_enter Tryz.func56, Tryz.ntmps56
  go_wp2_with fail
  refine HSP.out.mono ?_
  rintro e W1 ⟨rfl, hW1⟩
  have hz1 : W1.heap.size = w.heap.size + 1 + 1 + 1 := by rw [hW1]; simp
  have hb1 : Below w.heap.size w W1 := by rw [hW1]; exact HB0.out.alloc HB0.out.size _
  have hbk : Bk W1 (w.heap.size + 1 + 1) 9 (wcells lines).toArray := by
   rw [hW1]
   have := Bk.new ((w.alloc (.cells #[.func (.func kf) first capS] 108)).alloc (.cells #[.int .i64 0, .int .i64 0] 68)) 9 (wcells lines).toArray
   rwa [World.size_alloc, World.size_alloc] at this
  have hbW : Below ((w.alloc (.cells #[.func (.func kf) first capS] 108)).alloc (.cells #[.int .i64 0, .int .i64 0] 68)).heap.size ((w.alloc (.cells #[.func (.func kf) first capS] 108)).alloc (.cells #[.int .i64 0, .int .i64 0] 68)) W1 := by rw [hW1]; exact (Below.refl _ _).alloc (Nat.le_refl _) _
  have hL0 : Lp kf first capS Inv R0 w W1 lines 0 s0 R0 W1 := by
   refine ⟨But.of hb1, HS.out.keep _ _ _ _ _ (fun _ => False) HI.out (But.of hb1) (fun k hk => hk.elim), fun x hx => .inl hx, K0.out.below hbW K0.out.lt, K1.out.below hbW K1.out.lt, ?_, HE0.out.step hbW, Nat.le_refl _⟩
   refine ⟨by simp [wcells], fun _ => ⟨_, 0, rfl, hbk.lt, fun j hj => ?_⟩⟩
   rw [Nat.zero_add, hbk.cell j, List.getElem?_toArray]
  have HL0 := Lib.hid hL0
  have HZ1 := Lib.hid hz1
  simp only [World.size_alloc]
  clear hW1 hz1 hb1 hbk hbW hL0 K0 K1 HB0 HE0 HSP HI
  go_wp2_with fail
  go_loopw [16] (fun I wr => ∃ (k m : Nat) (s : σ) (R : Nat → Prop), k ≤ lines.length ∧ m ≤ k ∧ I = .int .i64 k ∧ Dd.linesG step s (lines.drop k) ((k : Int) + 1) = Dd.linesG step s0 lines 1 ∧ Lp kf first capS Inv R0 w W1 lines m s R wr) (fun I _ => lines.length - (intOf I).toNat)
  case atStart => exact ⟨0, 0, s0, R0, Nat.zero_le _, Nat.zero_le _, rfl, rfl, HL0.out⟩
  case round =>
   obtain ⟨k, m, s, R, hk, hmk, rfl, hrun, hL⟩ := hrel
   have HRUN := Lib.hid hrun
   have HL := Lib.hid hL
   clear hrun
   by_cases hlt : k < lines.length
   ·obtain ⟨x, hx⟩ : ∃ x, lines[k] = x := ⟨_, rfl⟩
    have hxs := HSH.out x (by rw [← hx]; exact List.getElem_mem hlt)
    have hdrop : lines.drop k = x :: lines.drop (k + 1) := by rw [← hx, List.drop_eq_getElem_cons hlt]
    have HDR := Lib.hid (show Dd.linesG step s (x :: lines.drop (k + 1)) ((k : Int) + 1) = Dd.linesG step s0 lines 1 by rw [← hdrop]; exact HRUN.out)
    obtain ⟨b', off', e1, _, hc⟩ := hL.ln.text hlt
    obtain ⟨rfl, rfl⟩ : w.heap.size + 1 + 1 = b' ∧ 0 = off' := by simpa using e1
    rw [hx, Nat.zero_add] at hc
    have hwr : IntKind.i64.wrap ((k : Int) + 1) = ((k + 1 : Nat) : Int) := IntWalk.i64_in _ (by omega)
    clear hL e1 hdrop hx
    go_wp2_with fail
    refine (wordsOf_any x hxs _ HL.out.env).mono ?_
    rintro e w2 ⟨b, hb0, rfl, hz, hb⟩
    have hl2 := HL.out.next HS.out hb
    have hb3 := (Below.refl w2.heap.size w2).alloc (Nat.le_refl _) (.cells #[.pointer (some ⟨b, 0, none⟩)] 104)
    have hl3 := hl2.next HS.out hb3
    have kt := Bk.new w2 104 #[.pointer (some ⟨b, 0, none⟩)]
    have hz3 := hz.below hb3
    obtain ⟨w3, hw3⟩ : ∃ w3, w2.alloc (.cells #[.pointer (some ⟨b, 0, none⟩)] 104) = w3 := ⟨_, rfl⟩
    obtain ⟨gt, hgt⟩ : ∃ gt, w2.heap.size = gt := ⟨_, rfl⟩
    rw [hw3] at hb3 hl3 kt hz3
    rw [hgt] at kt
    have hbw : wr.heap.size ≤ b := hb0
    have hbg : b < gt := by rw [← hgt]; exact hz.lt
    have hsz1 := HL.out.sz
    have HW3 := Lib.hid hw3
    have HL3 := Lib.hid hl3
    have HZ3 := Lib.hid hz3
    have KT := Lib.hid kt
    clear hz hb hl2 hb3 hl3 hw3 kt hz3 hb0
    obtain ⟨ws, hws⟩ : ∃ ws, Dd.fieldsF x = ws := ⟨_, rfl⟩
    rw [hws] at HZ3
    obtain ⟨Aw, cw, kb, rb, hcw⟩ := HZ3.out.ex
    have y0 := (kb.cell 0).trans rfl
    have t0 := (KT.out.cell 0).trans rfl
    rw [← HW3.out] at y0 t0
    have HDR2 := Lib.hid (show (if ws = [] then Dd.linesG step s (lines.drop (k + 1)) ((k : Int) + 1 + 1) else if (step s ws).1 = 0 then Dd.linesG step (step s ws).2 (lines.drop (k + 1)) ((k : Int) + 1 + 1) else (((step s ws).1, (k : Int) + 1), s)) = Dd.linesG step s0 lines 1 by
     have h := HDR.out
     rw [Dd.linesG, hws] at h
     exact h)
    have lt0 := KT.out.lt
    have ly0 := kb.lt
    clear kb rb hcw hws hc
    by_cases hwe : ws = []
    ·have HD3 := Lib.hid ((if_pos hwe).symm.trans HDR2.out)
     have g5 : ws.length = 0 := by rw [hwe]; rfl
     clear hwe
     go_wp2_with fail
     go_roundw
     case rel => exact ⟨k + 1, m, s, R, by omega, by omega, by go_num, HD3.out, HW3.out ▸ HL3.out⟩
     case measure => simp [intOf]; omega
    ·have HD3 := Lib.hid ((if_neg hwe).symm.trans HDR2.out)
     have g5 : ((ws.length : Int) == 0) = false := by
      have : ws.length ≠ 0 := fun h => hwe (List.length_eq_zero_iff.1 h)
      simp [this]
     have HWE := Lib.hid hwe
     clear hwe
     go_wp2_with fail
     rw [HW3.out]
     have hlow := HS.out.low _ _ _ _ HL.out.inv
     have hbR : ¬ R b := fun h => by have := hlow b h; omega
     have hgw : wr.heap.size ≤ gt := by omega
     have hbe := (Below.refl w3.heap.size w3).alloc (Nat.le_refl _) (.cells #[.int .i64 0] 30)
     have hl4 := HL3.out.next HS.out hbe
     have hz4 := HZ3.out.below hbe
     have kt4 := KT.out.below hbe KT.out.lt
     have ke := Bk.new w3 30 #[.int .i64 0]
     have hsz4 : (w3.alloc (.cells #[.int .i64 0] 30)).heap.size = w3.heap.size + 1 := by simp
     have hgt3 : gt < w3.heap.size := KT.out.lt
     have hszw : w.heap.size ≤ b := by have := HZ1.out; omega
     have hst := HS.out.step m s R _ b ws (by omega) hl4.inv hz4 HWE.out hbR hszw hl4.env
     obtain ⟨ge, hge⟩ : ∃ ge, w3.heap.size = ge := ⟨_, rfl⟩
     have hRe : ¬ R ge := fun h => by have := hlow ge h; omega
     have hbe2 : ¬ ge = b := by omega
     have hNB : ¬ (w3.heap.size = b ∨ R w3.heap.size) := by
      rw [hge]
      exact fun hx => hx.elim hbe2 hRe
     refine (tried_any 99 #[] #[.pointer (some ⟨w.heap.size, 0, none⟩), .pointer (some ⟨gt, 0, none⟩)]
      (fun V => (step s ws).1 = 0 ∧ ∃ R', Inv (m + 1) (step s ws).2 R' V ∧ (∀ k, R' k → R k ∨ (w3.alloc (.cells #[.int .i64 0] 30)).heap.size ≤ k) ∧ But (fun k => k = b ∨ R k) (w3.alloc (.cells #[.int .i64 0] 30)) V)
      (fun n V => (step s ws).1 ≠ 0 ∧ n = (step s ws).1 ∧ But (fun k => k = b ∨ R k) (w3.alloc (.cells #[.int .i64 0] 30)) V) w3 (fun W1' e1 => ?clo)
      (fun V hV => by obtain ⟨_, _, _, _, hV⟩ := hV; exact hV.bk ke hNB)
      (fun n V hV => hV.2.2.bk ke hNB) (enters_of Tryz.func99 (by kernel_rfl) rfl)).mono ?_
     case clo =>
      subst e1
      refine readLines1_any kf first capS HS.out.ent w.heap.size gt b _ hl4.kF kt4 (hst.mono ?_)
      rintro e V ⟨hbut, (⟨h1, rfl, R', hi, hr⟩ | ⟨h1, rfl⟩)⟩
      ·exact ⟨.inl rfl, .inl ⟨rfl, h1, R', hi, hr, hbut⟩⟩
      ·exact ⟨.inr ⟨_, rfl⟩, .inr ⟨_, rfl, h1, rfl, hbut⟩⟩
     rw [hge]
     have HX := Lib.hid (show ∀ x, (x = b ∨ R x) → R0 x ∨ W1.heap.size ≤ x from fun x hx => by
      rcases hx with h | h
      ·exact .inr (by omega)
      ·exact HL.out.hR x h)
     have HL4 := Lib.hid hl4
     have HGE := Lib.hid hge
     have HSZ4 := Lib.hid hsz4
     have HRE := Lib.hid hRe
     have hgeW : W1.heap.size ≤ ge ∧ w.heap.size + 1 < ge := by have := HZ1.out; omega
     clear hbe hl4 hz4 kt4 ke hst hsz4 hge hNB hRe hbR hlow y0 t0 lt0 ly0
     rintro e w5 ⟨V, n, (⟨rfl, h1, R', hi, hr, hbut⟩ | ⟨h1, rfl, hbut⟩), rfl, rfl⟩
     ·have hR' : ∀ x, R' x → R0 x ∨ W1.heap.size ≤ x := fun x hx => by
       rcases hr x hx with h | h
       ·exact HL.out.hR x h
       ·exact .inr (by have := HSZ4.out; have := HGE.out; omega)
      have hge' : ¬ R' ge := fun h => by
       rcases hr ge h with h | h
       ·exact HRE.out h
       ·have := HSZ4.out; have := HGE.out; omega
      have hl5 := HL4.out.change HZ1.out HR0.out h9 hbut HX.out hi hR'
      have hset : But (fun x => x = ge) V (V.setCell ⟨ge, 0, none⟩ (.int .i64 0)) := But.set (X := fun x => x = ge) (But.refl _ _) rfl _
      have hl6 := hl5.change HZ1.out HR0.out h9 hset (fun x hx => .inr (by have h2 : x = ge := hx; omega)) (HS.out.keep _ _ _ _ _ _ hi hset (fun x hx => ⟨by rw [show x = ge from hx]; exact hge', by have h2 : x = ge := hx; omega⟩)) hR'
      have HL6 := Lib.hid hl6
      have HD4 := Lib.hid ((if_pos h1).symm.trans HD3.out)
      clear hl5 hl6 hset hbut hi hr h1
      go_wp2_with fail
      go_roundw
      case rel => exact ⟨k + 1, m + 1, _, R', by omega, by omega, by go_num, HD4.out, HL6.out⟩
      case measure => simp [intOf]; omega
     ·have HD4 := Lib.hid ((if_neg h1).symm.trans HD3.out)
      have g6 : ((step s ws).1 != 0) = true := by simpa using h1
      have hkR : Bk V (w.heap.size + 1) 68 #[.int .i64 0, .int .i64 0] := hbut.bk HL4.out.kR (fun h => by
       rcases HX.out _ h with h | h
       ·have := HR0.out _ h; omega
       ·have := HZ1.out; omega)
      have hkR2 := hkR.far (p := ⟨ge, 0, none⟩) (show w.heap.size + 1 ≠ ge by omega) (.int .i64 (step s ws).1)
      have KR2 := Lib.hid hkR2
      have hB : But R0 w (V.setCell ⟨ge, 0, none⟩ (.int .i64 (step s ws).1)) := by
       have h := HL4.out.but
       refine But.new_set' ⟨hbut.os.trans h.os, hbut.tape.trans h.tape, hbut.output.trans h.output, Nat.le_trans h.size hbut.size, fun x hx1 hx2 => (hbut.block x (Nat.lt_of_lt_of_le hx1 h.size) (fun hx3 => ?_)).trans (h.block x hx1 hx2)⟩ (show w.heap.size ≤ ge by omega) _
       rcases HX.out x hx3 with h4 | h4
       ·exact hx2 h4
       ·have := HZ1.out; omega
      have HB := Lib.hid (But.new_row hB (show w.heap.size ≤ w.heap.size + 1 by omega) #[.int .i64 (step s ws).1, .int .i64 ((k + 1 : Nat) : Int)])
      have H1 := Lib.hid h1
      obtain ⟨er, her⟩ : ∃ er, (step s ws).1 = er := ⟨_, rfl⟩
      rw [her] at g6 KR2 HB HD4 H1 ⊢
      clear hkR hkR2 hB hbut h1 her
      go_wp2_with (refine wpList_store_row rfl 68 (.tmp 4) (.tmp 36) rfl (w.heap.size + 1) _ rfl rfl 68 _ KR2.out (by kernel_rfl) rfl (by kernel_rfl) ?_)
      refine bodyPost_ret (results_cell_row1 rfl _ _ (w.heap.size + 1) 68 _ (0, 0) _ rfl (KR2.out.row _) Tryz.underlying68 rfl (by kernel_rfl)) rfl ⟨by rw [← HD4.out], HB.out, fun h => ?_⟩
      rw [← HD4.out] at h
      exact absurd (congrArg Prod.fst h) H1.out
   ·have hkl : k = lines.length := by omega
    subst hkl
    have HE := Lib.hid (show Dd.linesG step s0 lines 1 = ((0, 0), s) by rw [← HRUN.out, List.drop_length]; rfl)
    rw [HE.out]
    have n0 := (hL.kR.cell 0).trans rfl
    have n1 := (hL.kR.cell 1).trans rfl
    have m0 := hL.kR.frozen 0
    have m1 := hL.kR.frozen 1
    have l1 := hL.kR.lt
    clear hL
    go_wp2_with (refine wpList_store_row rfl 68 (.tmp 4) (.tmp 38) rfl (w.heap.size + 1) _ rfl rfl 68 _ HL.out.kR (by kernel_rfl) rfl (by kernel_rfl) ?_)
    obtain ⟨h1, h2, h3⟩ := HL.out.row HZ1.out HR0.out #[.int .i64 0, .int .i64 0]
    refine bodyPost_ret (results_cell_row1 rfl _ _ (w.heap.size + 1) 68 _ (0, 0) _ rfl (HL.out.kR.row _) Tryz.underlying68 rfl (by kernel_rfl)) rfl ⟨by rw [HE.out], h1, fun _ => ⟨R, m, by omega, by rw [HE.out]; exact HS.out.keep _ _ _ _ _ _ HL.out.inv h2 h3, fun x hx => ?_⟩⟩
    rcases HL.out.hR x hx with h4 | h4
    ·exact .inl h4
    ·exact .inr (by have := HZ1.out; omega)
end Go.Proofs.YtcbeefbefapicaaGreatDoor
