/-
  What the claims of layer deed need of the texts DEx, DMap, DRea.
-/
import Derived.MapKept
import Derived.Carry
import Derived.Test.YtccikcpcfdjobaaGreatDoorBr01
import Derived.Test.YtccikcpcfdjobaaGreatDoorBr31
import Derived.Test.YtccikcpcfdjobaaGreatDoorBz
set_option linter.unusedVariables false
set_option linter.unusedSimpArgs false
set_option maxHeartbeats 8000000
set_option maxRecDepth 100000
namespace Go.Proofs.YtccikcpcfdjobaaGreatDoor
section
namespace Dd
def exL : Bs := [99, 111, 117, 114, 115, 101, 32, 119, 97, 108, 108, 32, 97, 115, 104, 32, 111, 97, 107, 32, 49, 48, 32, 99, 104, 97, 105, 110, 115, 32, 98, 121, 32, 110, 111, 114, 116, 104, 32, 53, 48, 32, 101, 97, 115, 116, 32, 103, 105, 118, 101, 32, 50, 32, 119, 101, 97, 114, 32, 48, 32, 115, 108, 97, 99, 107, 32, 49, 48, 48]
def exS : Bs := [115, 116, 111, 110, 101, 32, 119, 97, 108, 108, 32, 111, 97, 107, 32, 50, 53, 48, 32, 50]
def exT : Bs := [115, 116, 111, 110, 101, 32, 119, 97, 108, 108, 32, 97, 115, 104, 32, 49, 32, 48]
def exF : Fd := ⟨[([97, 115, 104], 0), ([111, 97, 107], 866)], [[119, 97, 108, 108], [104, 101, 100, 103, 101]], [⟨[104, 111, 109, 101], 0, 0, 1⟩], [(1700, 10)]⟩
def exC : Ca := ⟨3, 0, 0, 0, 1, 0, 0, ⟨50, 2, 1000, 1750, 0, 100⟩⟩
def exD : Ca := ⟨1, 0, 0, 1, 0, 250, 2, co0⟩
def exB : Ca := ⟨3, 0, 0, 1, 0, 0, 0, ⟨230, 2, 1000, 1750, 0, 100⟩⟩
def exY : List Int := [0, 100, 100, 150, 150]
theorem ex1 : parseF exampleS = (exF, (0, 0)) := by decide +kernel
theorem ex2 : readF exF exL 1750 = (exC, 0) := by decide +kernel
theorem ex3 : boundsF exF exC 7 = ([⟨1, 2, 519, 7⟩, ⟨2, 1, -480, 7⟩], 0) := by decide +kernel
theorem ex4 : readF exF exS 1750 = (exD, 0) := by decide +kernel
theorem ex5 : boundsF exF exD 7 = ([⟨0, 2, 252, 7⟩, ⟨2, 0, -248, 7⟩], 0) := by decide +kernel
theorem ex6 : natureF exF = ([⟨0, 1, 100000, 0⟩, ⟨1, 0, 0, 0⟩, ⟨0, 2, 100000, 0⟩, ⟨2, 0, 0, 0⟩, ⟨0, 3, 100000, 0⟩, ⟨3, 0, 0, 0⟩, ⟨0, 4, 100000, 0⟩, ⟨4, 0, 0, 0⟩, ⟨3, 1, 0, 0⟩, ⟨4, 2, 0, 0⟩], 0) := by decide +kernel
theorem ex7 : atF exF 0 120 exY = (0, 0) := by decide +kernel
theorem ex8 : backF exF exC = (exB, 0) := by decide +kernel
theorem ex9 : parseD exF exT = ([], (4, 1)) := by decide +kernel
theorem ex10 : ptsF exF = 5 := by decide +kernel
end Dd
end

section
open Go.RowKit
theorem run_check_str {P : Program} {w : World} {kt : TypeId} (hk : P.underlying kt = some .string) (e : Bool) (s : ByteArray) : (Instr.checkKey e 10000 kt (.string s)).run P w = .ok () w :=
 MapKept.run_checkKey hk (by trivial) e 9999
theorem run_find_str {P : Program} {w : World} {kt : TypeId} (hk : P.underlying kt = some .string) (s : ByteArray) (es : List MapEntry) (r : Option (Nat × Value)) (h : Instr.findNow .string (.string s) es 0 = some r) : (Instr.findKey kt (.string s) es).run P w = .ok r w := by
 simp [Instr.findKey, run_underlying hk, h, Result.andThen]
theorem run_put_str {P : Program} {w : World} {t kt et : TypeId} {b : Nat} {es : Array MapEntry} {c : Nat} (ht : P.underlying t = some (.map kt et)) (hk : P.underlying kt = some .string) (hb : w.heap[b]? = some (.map es c)) (s : ByteArray) (v : Value)
  (h : Instr.findNow .string (.string s) es.toList 0 = some none) : (Instr.mapUpdate t (.map (some b)) (.string s) v).run P w = .ok () (w.putObj b (.map (es.push ⟨.string s, v, c⟩) (c + 1))) := by
 simp [Instr.mapUpdate, run_underlying ht, MapKept.run_getObj_map hb, run_check_str hk, run_find_str hk _ _ _ h, MapKept.run_setObj_map _ hb, Result.andThen, World.putObj]
theorem run_look_str {P : Program} {w : World} {t kt et : TypeId} {b : Nat} {es : Array MapEntry} {c : Nat} (ht : P.underlying t = some (.map kt et)) (hk : P.underlying kt = some .string) (hb : w.heap[b]? = some (.map es c)) (s : ByteArray) (i : Nat) (v : Value)
  (h : Instr.findNow .string (.string s) es.toList 0 = some (some (i, v))) : (Instr.lookup t (.map (some b)) (.string s) true).run P w = .ok (.tuple #[v, .bool true]) w := by
 simp [Instr.lookup, run_underlying ht, MapKept.run_getObj_map hb, run_check_str hk, run_find_str hk _ _ _ h, Result.andThen]
theorem run_miss_str {P : Program} {w : World} {t kt et : TypeId} {b : Nat} {es : Array MapEntry} {c : Nat} (ht : P.underlying t = some (.map kt et)) (hk : P.underlying kt = some .string) (hb : w.heap[b]? = some (.map es c)) (s : ByteArray) (z : Value) (hz : (zeroValue et).run P w = .ok z w)
  (h : Instr.findNow .string (.string s) es.toList 0 = some none) : (Instr.lookup t (.map (some b)) (.string s) true).run P w = .ok (.tuple #[z, .bool false]) w := by
 simp [Instr.lookup, run_underlying ht, MapKept.run_getObj_map hb, run_check_str hk, run_find_str hk _ _ _ h, hz, Result.andThen]
theorem wpList_insert_str {P : Program} {ops : Array Oper} {rest : List Oper} {o : Oper} {a : Act} {w : World} {Q : Exit → Act → World → Prop} (hgd : o.guard = none) (t : TypeId) (m k x : Operand) (ho : o.op = .insert t m k x)
  (b : Nat) (hm : a.eval m = .map (some b)) (s : ByteArray) (hk : a.eval k = .string s) (v : Value) (hv : a.eval x = v) (kt et : TypeId) (ht : P.underlying t = some (.map kt et)) (hkt : P.underlying kt = some .string)
  (es : Array MapEntry) (c : Nat) (hb : w.heap[b]? = some (.map es c)) (hn : Instr.findNow .string (.string s) es.toList 0 = some none)
  (h : wpList P ops Q rest (a.put o.dst undef) (w.putObj b (.map (es.push ⟨.string s, v, c⟩) (c + 1)))) : wpList P ops Q (o :: rest) a w := by
 refine wpList_plain hgd fun K hK => ?_
 unfold Oper.wp
 simp only [execOp, ho, hm, hk, hv, run_put_str ht hkt hb s v hn, Sem.run_bind, Sem.run_pure, Result.andThen_ok]
 exact hK _ _ h
theorem putObj_heap {w : World} {b : Nat} {o p : Obj} (h : w.heap[b]? = some p) : (w.putObj b o).heap[b]? = some o := World.putObj_heap_same (Array.getElem?_eq_some_iff.1 h).1
theorem Below.putNew {B : Nat} {a w : World} (h : Below B a w) {b : Nat} (hb : B ≤ b) (o : Obj) : Below B a (w.putObj b o) :=
 h.trans ⟨rfl, rfl, rfl, by simp [World.putObj], fun k hk => World.putObj_heap_other (by omega)⟩
theorem ne_ba {a b : Cs.Bs} (h : ¬ a = b) : ((⟨a.toArray⟩ : ByteArray) == ⟨b.toArray⟩) = false := by
 rw [beq_toListBytes]
 simp [h]
def fes : Array MapEntry := #[⟨.string ⟨Dd.kStation.toArray⟩, .func (.func 144) #[] #[], 0⟩, ⟨.string ⟨Dd.kLimit.toArray⟩, .func (.func 145) #[] #[], 1⟩,
 ⟨.string ⟨Dd.kParcel.toArray⟩, .func (.func 146) #[] #[], 2⟩, ⟨.string ⟨Dd.kVariation.toArray⟩, .func (.func 147) #[] #[], 3⟩]
def ces : Array MapEntry := #[⟨.string ⟨Dd.kStone.toArray⟩, .func (.func 198) #[] #[], 0⟩, ⟨.string ⟨Dd.kWidth.toArray⟩, .func (.func 199) #[] #[], 1⟩, ⟨.string ⟨Dd.kCourse.toArray⟩, .func (.func 200) #[] #[], 2⟩,
 ⟨.string ⟨Dd.kAlong.toArray⟩, .func (.func 201) #[] #[], 3⟩, ⟨.string ⟨Dd.kLevel.toArray⟩, .func (.func 202) #[] #[], 4⟩]
def ftab (k : Cs.Bs) : Option Nat := if k = Dd.kStation then some 144 else if k = Dd.kLimit then some 145 else if k = Dd.kParcel then some 146 else if k = Dd.kVariation then some 147 else none
def ctab (k : Cs.Bs) : Option Nat := if k = Dd.kStone then some 198 else if k = Dd.kWidth then some 199 else if k = Dd.kCourse then some 200 else if k = Dd.kAlong then some 201 else if k = Dd.kLevel then some 202 else none
theorem fieldForms_any (w : World) : Calls Tryz.prog 94 #[] w fun e w' => ∃ b, w.heap.size ≤ b ∧ e = .returned (.map (some b)) ∧ w'.heap[b]? = some (.map fes 4) ∧ Below w.heap.size w w' := by
 have hmk := fun t (w : World) => run_makeMap (P := Tryz.prog) t w
 have h0 : (w.alloc (.map #[] 0)).heap[w.heap.size]? = some (.map #[] 0) := World.alloc_heap_new _ _
 go_enter Tryz.func94, Tryz.ntmps94
 go_wp2_with (refine wpList_insert_str rfl 118 (.tmp 1) _ _ rfl w.heap.size rfl _ rfl _ rfl _ _ Tryz.underlying118 Tryz.underlying9 _ _ (by with_reducible first | exact h0 | exact putObj_heap (h0) | exact putObj_heap (putObj_heap (h0)) | exact putObj_heap (putObj_heap (putObj_heap (h0)))) (by kernel_rfl) ?_)
 go_ret
 exact ⟨w.heap.size, Nat.le_refl _, rfl, putObj_heap (putObj_heap (putObj_heap (putObj_heap (h0)))), (Below.putNew (Below.putNew (Below.putNew (Below.putNew ((Below.refl w.heap.size w).alloc (Nat.le_refl _) (.map #[] 0)) (Nat.le_refl _) _) (Nat.le_refl _) _) (Nat.le_refl _) _) (Nat.le_refl _) _)⟩
theorem callForms_any (w : World) : Calls Tryz.prog 155 #[] w fun e w' => ∃ b, w.heap.size ≤ b ∧ e = .returned (.map (some b)) ∧ w'.heap[b]? = some (.map ces 5) ∧ Below w.heap.size w w' := by
 have hmk := fun t (w : World) => run_makeMap (P := Tryz.prog) t w
 have h0 : (w.alloc (.map #[] 0)).heap[w.heap.size]? = some (.map #[] 0) := World.alloc_heap_new _ _
 go_enter Tryz.func155, Tryz.ntmps155
 go_wp2_with (refine wpList_insert_str rfl 185 (.tmp 1) _ _ rfl w.heap.size rfl _ rfl _ rfl _ _ Tryz.underlying185 Tryz.underlying9 _ _ (by with_reducible first | exact h0 | exact putObj_heap (h0) | exact putObj_heap (putObj_heap (h0)) | exact putObj_heap (putObj_heap (putObj_heap (h0))) | exact putObj_heap (putObj_heap (putObj_heap (putObj_heap (h0))))) (by kernel_rfl) ?_)
 go_ret
 exact ⟨w.heap.size, Nat.le_refl _, rfl, putObj_heap (putObj_heap (putObj_heap (putObj_heap (putObj_heap (h0))))), (Below.putNew (Below.putNew (Below.putNew (Below.putNew (Below.putNew ((Below.refl w.heap.size w).alloc (Nat.le_refl _) (.map #[] 0)) (Nat.le_refl _) _) (Nat.le_refl _) _) (Nat.le_refl _) _) (Nat.le_refl _) _) (Nat.le_refl _) _)⟩
def tabW (tab : Cs.Bs → Option Nat) : List Cs.Bs → Option (Nat × List Cs.Bs)
 | [] => none
 | k :: r => match tab k with | some n => some (n, r) | none => none
def fnv : Nat → Value := fun n => .func (.func n) #[] #[]
theorem ffind (k : Cs.Bs) : (∃ i n, ftab k = some n ∧ Instr.findNow .string (.string ⟨k.toArray⟩) fes.toList 0 = some (some (i, .func (.func n) #[] #[]))) ∨ (ftab k = none ∧ Instr.findNow .string (.string ⟨k.toArray⟩) fes.toList 0 = some none) := by
 unfold ftab
 by_cases h0 : k = Dd.kStation
 ·subst h0; exact .inl ⟨0, _, rfl, by kernel_rfl⟩
 by_cases h1 : k = Dd.kLimit
 ·subst h1; exact .inl ⟨1, _, rfl, by kernel_rfl⟩
 by_cases h2 : k = Dd.kParcel
 ·subst h2; exact .inl ⟨2, _, rfl, by kernel_rfl⟩
 by_cases h3 : k = Dd.kVariation
 ·subst h3; exact .inl ⟨3, _, rfl, by kernel_rfl⟩
 right
 refine ⟨by simp [h0, h1, h2, h3], ?_⟩
 simp [fes, Instr.findNow, Instr.sameNow, h0, h1, h2, h3, ne_ba h0, ne_ba h1, ne_ba h2, ne_ba h3]
theorem cfind (k : Cs.Bs) : (∃ i n, ctab k = some n ∧ Instr.findNow .string (.string ⟨k.toArray⟩) ces.toList 0 = some (some (i, .func (.func n) #[] #[]))) ∨ (ctab k = none ∧ Instr.findNow .string (.string ⟨k.toArray⟩) ces.toList 0 = some none) := by
 unfold ctab
 by_cases h0 : k = Dd.kStone
 ·subst h0; exact .inl ⟨0, _, rfl, by kernel_rfl⟩
 by_cases h1 : k = Dd.kWidth
 ·subst h1; exact .inl ⟨1, _, rfl, by kernel_rfl⟩
 by_cases h2 : k = Dd.kCourse
 ·subst h2; exact .inl ⟨2, _, rfl, by kernel_rfl⟩
 by_cases h3 : k = Dd.kAlong
 ·subst h3; exact .inl ⟨3, _, rfl, by kernel_rfl⟩
 by_cases h4 : k = Dd.kLevel
 ·subst h4; exact .inl ⟨4, _, rfl, by kernel_rfl⟩
 right
 refine ⟨by simp [h0, h1, h2, h3, h4], ?_⟩
 simp [ces, Instr.findNow, Instr.sameNow, h0, h1, h2, h3, h4, ne_ba h0, ne_ba h1, ne_ba h2, ne_ba h3, ne_ba h4]
theorem freader_any (mb b : Nat) (l : List Cs.Bs) (W : World) (hm : W.heap[mb]? = some (.map fes 4)) (hne : mb ≠ b) (h : Wz W b l) :
  Calls Tryz.prog 97 #[.map (some mb), .pointer (some ⟨b, 0, none⟩)] W (Wo b W fnv (tabW ftab l)) := by
 have hlm := (Array.getElem?_eq_some_iff.1 hm).1
 rcases l with _ | ⟨k, r⟩
 ·have H0 := jQ (next_any b [] W h)
  clear h hm
  go_enter Tryz.func97, Tryz.ntmps97
  go_wp2_with fail
  refine H0.o.mono ?_
  intro e w1 he
  obtain ⟨rfl, hb⟩ := he.none_ rfl
  clear he
  go_wp2_with fail
  exact ⟨rfl, Wo.no rfl hb⟩
 ·have H0 := jQ (next_any b (k :: r) W h)
  rcases ffind k with ⟨i, n, ht, hf⟩ | ⟨ht, hf⟩
  ·have HL := jQ (fun (W1 : World) (hb : But (fun x => x = b) W W1) => run_look_str (P := Tryz.prog) (t := 118) Tryz.underlying118 Tryz.underlying9 ((hb.block mb hlm hne).trans hm) ⟨k.toArray⟩ i _ hf)
   have HW := jQ (show tabW ftab (k :: r) = some (n, r) by simp [tabW, ht])
   have N0 := jQ (need_yes 4)
   clear h hm ht hf
   go_enter Tryz.func97, Tryz.ntmps97
   go_wp2_with fail
   refine H0.o.mono ?_
   intro e w1 he
   obtain ⟨rfl, hb, hz⟩ := he.some_ rfl
   have hlk := HL.o _ hb
   have HB := jQ hb
   have HZ := jQ hz
   clear he hb hz
   simp only [sv_def]
   go_wp2_with fail
   refine (N0.o _).mono ?_
   rintro e w3 ⟨rfl, hb3⟩
   have HB3 := jQ hb3
   clear hb3
   go_wp2_with fail
   go_ret
   exact Wo.yes (val := fnv) HW.o (HB.o.trans (But.of HB3.o)) (HZ.o.below HB3.o)
  ·have HL := jQ (fun (W1 : World) (hb : But (fun x => x = b) W W1) => run_miss_str (P := Tryz.prog) (t := 118) Tryz.underlying118 Tryz.underlying9 ((hb.block mb hlm hne).trans hm) ⟨k.toArray⟩ _ (Tryz.zeroValue122 _) hf)
   have HW := jQ (show tabW ftab (k :: r) = none by simp [tabW, ht])
   have N0 := jQ (need_no 4)
   clear h hm ht hf
   go_enter Tryz.func97, Tryz.ntmps97
   go_wp2_with fail
   refine H0.o.mono ?_
   intro e w1 he
   obtain ⟨rfl, hb, hz⟩ := he.some_ rfl
   have hlk := HL.o _ hb
   have HB := jQ hb
   clear he hb hz
   simp only [sv_def]
   go_wp2_with fail
   refine (N0.o _).mono ?_
   rintro e w3 ⟨rfl, hb3⟩
   go_wp2_with fail
   exact ⟨rfl, Wo.no HW.o (HB.o.trans (But.of hb3))⟩
theorem creader_any (mb b : Nat) (l : List Cs.Bs) (W : World) (hm : W.heap[mb]? = some (.map ces 5)) (hne : mb ≠ b) (h : Wz W b l) :
  Calls Tryz.prog 154 #[.map (some mb), .pointer (some ⟨b, 0, none⟩)] W (Wo b W fnv (tabW ctab l)) := by
 have hlm := (Array.getElem?_eq_some_iff.1 hm).1
 rcases l with _ | ⟨k, r⟩
 ·have H0 := jQ (next_any b [] W h)
  clear h hm
  go_enter Tryz.func154, Tryz.ntmps154
  go_wp2_with fail
  refine H0.o.mono ?_
  intro e w1 he
  obtain ⟨rfl, hb⟩ := he.none_ rfl
  clear he
  go_wp2_with fail
  exact ⟨rfl, Wo.no rfl hb⟩
 ·have H0 := jQ (next_any b (k :: r) W h)
  rcases cfind k with ⟨i, n, ht, hf⟩ | ⟨ht, hf⟩
  ·have HL := jQ (fun (W1 : World) (hb : But (fun x => x = b) W W1) => run_look_str (P := Tryz.prog) (t := 185) Tryz.underlying185 Tryz.underlying9 ((hb.block mb hlm hne).trans hm) ⟨k.toArray⟩ i _ hf)
   have HW := jQ (show tabW ctab (k :: r) = some (n, r) by simp [tabW, ht])
   have N0 := jQ (need_yes 4)
   clear h hm ht hf
   go_enter Tryz.func154, Tryz.ntmps154
   go_wp2_with fail
   refine H0.o.mono ?_
   intro e w1 he
   obtain ⟨rfl, hb, hz⟩ := he.some_ rfl
   have hlk := HL.o _ hb
   have HB := jQ hb
   have HZ := jQ hz
   clear he hb hz
   simp only [sv_def]
   go_wp2_with fail
   refine (N0.o _).mono ?_
   rintro e w3 ⟨rfl, hb3⟩
   have HB3 := jQ hb3
   clear hb3
   go_wp2_with fail
   go_ret
   exact Wo.yes (val := fnv) HW.o (HB.o.trans (But.of HB3.o)) (HZ.o.below HB3.o)
  ·have HL := jQ (fun (W1 : World) (hb : But (fun x => x = b) W W1) => run_miss_str (P := Tryz.prog) (t := 185) Tryz.underlying185 Tryz.underlying9 ((hb.block mb hlm hne).trans hm) ⟨k.toArray⟩ _ (Tryz.zeroValue131 _) hf)
   have HW := jQ (show tabW ctab (k :: r) = none by simp [tabW, ht])
   have N0 := jQ (need_no 4)
   clear h hm ht hf
   go_enter Tryz.func154, Tryz.ntmps154
   go_wp2_with fail
   refine H0.o.mono ?_
   intro e w1 he
   obtain ⟨rfl, hb, hz⟩ := he.some_ rfl
   have hlk := HL.o _ hb
   have HB := jQ hb
   clear he hb hz
   simp only [sv_def]
   go_wp2_with fail
   refine (N0.o _).mono ?_
   rintro e w3 ⟨rfl, hb3⟩
   go_wp2_with fail
   exact ⟨rfl, Wo.no HW.o (HB.o.trans (But.of hb3))⟩
end

section
open Go.RowKit
def Dd.draftE (l : List Cs.Bs) : Option (Dd.Dr × List Cs.Bs) := (Dd.draftM l).bind fun p => (Dd.endW p.2).bind fun q => some (p.1, q.2)
theorem Dd.draftE_fin (l : List Cs.Bs) : Dd.draftF l = (Dd.draftE l).map (·.1) := by
 rw [← Dd.draft_fin]
 unfold Dd.fin Dd.draftE
 rcases Dd.draftM l with _ | ⟨d, r⟩
 ·rfl
 ·rcases r with _ | ⟨x, r⟩ <;> rfl
theorem centers (n : Nat) (k : Cs.Bs) (h : ctab k = some n) : ∀ args w, (callFunc n args).run Tryz.prog w = .ok (.enter n args) w := by
 unfold ctab at h
 split at h
 ·cases h; exact enters_of Tryz.func198 (by kernel_rfl) rfl
 split at h
 ·cases h; exact enters_of Tryz.func199 (by kernel_rfl) rfl
 split at h
 ·cases h; exact enters_of Tryz.func200 (by kernel_rfl) rfl
 split at h
 ·cases h; exact enters_of Tryz.func201 (by kernel_rfl) rfl
 split at h
 ·cases h; exact enters_of Tryz.func202 (by kernel_rfl) rfl
 ·cases h
theorem creads (n : Nat) (k : Cs.Bs) (r : List Cs.Bs) (h : ctab k = some n) (b : Nat) (W : World) (hE : Env W) (hz : Wz W b r) :
  Calls Tryz.prog n #[.pointer (some ⟨b, 0, none⟩)] W (Wo b W drval (Dd.draftM (k :: r))) := by
 unfold ctab at h
 split at h
 ·rename_i e; cases h; subst e; exact stone_any b r W hE hz
 split at h
 ·rename_i e; cases h; subst e; exact width_any b r W hE hz
 split at h
 ·rename_i e; cases h; subst e; exact course_any b r W hE hz
 split at h
 ·rename_i e; cases h; subst e; exact along_any b r W hE hz
 split at h
 ·rename_i e; cases h; subst e; exact level_any b r W hE hz
 ·cases h
theorem ctab_none {k : Cs.Bs} {r : List Cs.Bs} (h : ctab k = none) : Dd.draftM (k :: r) = none := by
 unfold ctab at h
 unfold Dd.draftM
 split at h
 ·cases h
 split at h
 ·cases h
 split at h
 ·cases h
 split at h
 ·cases h
 split at h
 ·cases h
 ·simp [*]
theorem readDraft_any (b : Nat) (l : List Cs.Bs) (W : World) (hE : Env W) (h : Wz W b l) :
  Calls Tryz.prog 102 #[.pointer (some ⟨b, 0, none⟩)] W (Wo b W drval (Dd.draftE l)) := by
 have hg := h.g9
 have hbl := h.lt
 have kg := Bk.new W 130 zero17
 have hB0 := (Below.refl W.heap.size W).alloc (Nat.le_refl _) (.cells zero17 130)
 have hz0 := h.below hB0
 have HE0 := jQ (hE.step hB0)
 simp only [zero17] at kg hB0 hz0 HE0
 have HB0 := jQ (But.of (X := fun k => k = b) hB0)
 have HZ0 := jQ hz0
 have HK0 := jQ kg
 have hne : ¬ W.heap.size = b := by omega
 have HBL := jQ hbl
 clear h hE kg hB0 hz0 hbl
 go_enter Tryz.func102, Tryz.ntmps102
 go_wp2_with fail
 refine (callForms_any _).mono ?_
 rintro e w1 ⟨mb, hmb, rfl, hmap, hb1⟩
 have hne2 : mb ≠ b := by have := HZ0.o.lt; omega
 have HB1 := jQ (HB0.o.trans (But.of hb1))
 have HZ1 := jQ (HZ0.o.below hb1)
 have HE1 := jQ (HE0.o.step hb1)
 have HK1 := jQ (HK0.o.below hb1 HK0.o.lt)
 have HR := jQ (creader_any mb b l w1 hmap hne2 HZ1.o)
 clear hmap hb1 hmb
 go_wp2_with fail
 refine HR.o.mono ?_
 intro e w2 he
 rcases hs : tabW ctab l with _ | ⟨n, r⟩
 ·have HW := jQ (show Dd.draftE l = none by
   rcases l with _ | ⟨k, r⟩
   ·rfl
   ·unfold Dd.draftE
    rw [ctab_none (by rcases hk : ctab k with _ | n; rfl; simp [tabW, hk] at hs)]
    rfl)
  obtain ⟨rfl, hb⟩ := he.none_ hs
  clear he hs
  go_wp2_with fail
  exact ⟨rfl, Wo.no HW.o (HB1.o.trans hb)⟩
 ·obtain ⟨k, rfl, hk⟩ : ∃ k, l = k :: r ∧ ctab k = some n := by
   rcases l with _ | ⟨k, r'⟩
   ·cases hs
   ·rcases hk : ctab k with _ | m
    ·simp [tabW, hk] at hs
    ·simp [tabW, hk] at hs
     obtain ⟨rfl, rfl⟩ := hs
     exact ⟨k, rfl, hk⟩
  obtain ⟨rfl, hb, hz⟩ := he.some_ hs
  have HB2 := jQ (HB1.o.trans hb)
  have HZ2 := jQ hz
  have HE2 := jQ (HE1.o.but1 hb hg)
  have HK2 := jQ (hb.bk HK1.o hne)
  have HC := jQ (creads n k r hk b w2 HE2.o hz)
  have hent := centers n k hk
  clear he hb hz hs hk
  simp only [fnv]
  go_wp2_with fail
  refine HC.o.mono ?_
  intro e v3 he
  rcases hs : Dd.draftM (k :: r) with _ | ⟨d, r2⟩
  ·have HW := jQ (show Dd.draftE (k :: r) = none by unfold Dd.draftE; rw [hs]; rfl)
   obtain ⟨rfl, hb⟩ := he.none_ hs
   clear he hs
   go_wp2_with fail
   exact ⟨rfl, Wo.no HW.o (HB2.o.trans hb)⟩
  ·have HS := jQ (show Dd.draftE (k :: r) = (Dd.endW r2).bind fun q => some (d, q.2) by unfold Dd.draftE; rw [hs]; rfl)
   obtain ⟨rfl, hb, hz⟩ := he.some_ hs
   have hB3 := HB2.o.trans hb
   have hE3 := HE2.o.but1 hb hg
   have hK3 := hb.bk HK2.o hne
   have hbn := (Below.refl v3.heap.size v3).alloc (Nat.le_refl _) (.cells (drcells d).toArray 130)
   have hkd := Bk.new v3 130 (drcells d).toArray
   have hgd : W.heap.size < v3.heap.size := hK3.lt
   obtain ⟨w3, hw3⟩ : ∃ w3, v3.alloc (.cells (drcells d).toArray 130) = w3 := ⟨_, rfl⟩
   obtain ⟨gd, hgd2⟩ : ∃ gd, v3.heap.size = gd := ⟨_, rfl⟩
   have hz3 := hz.below hbn
   have HB3 := jQ (hw3 ▸ hB3.trans (But.of hbn))
   have HZ3 := jQ (hw3 ▸ hz3)
   have HE3 := jQ (hw3 ▸ hE3.step hbn)
   have HK3 := jQ (hw3 ▸ hK3.below hbn hK3.lt)
   have HD3 := jQ (hgd2 ▸ hw3 ▸ hkd)
   have hnd : ¬ gd = b := by have := HBL.o; omega
   have hgw : W.heap.size < gd := by omega
   have HX3 := jQ hw3
   clear he hb hz hB3 hE3 hK3 hbn hkd hz3 hgd hs hw3
   simp only [drval, drcells]
   go_wp2_with fail
   rw [show v3.alloc (.cells #[.string ⟨d.l.toArray⟩, .string ⟨d.o.toArray⟩, .string ⟨d.a.toArray⟩, .string ⟨d.b.toArray⟩, .int .u8 d.c.k, .int .i64 d.c.l, .int .i64 d.c.o, .int .i64 d.c.a, .int .i64 d.c.b, .int .i64 d.c.s, .int .i64 d.c.e, .int .i64 d.c.c.b, .int .i64 d.c.c.n, .int .i64 d.c.c.l, .int .i64 d.c.c.y, .int .i64 d.c.c.w, .int .i64 d.c.c.s] 130) = w3 from HX3.o]
   try rw [hgd2]
   clear hgd2
   refine (wend_any b r2 _ HZ3.o).mono ?_
   intro e v4 he
   rcases hs : Dd.endW r2 with _ | ⟨u, r3⟩
   ·have HW := jQ (show Dd.draftE (k :: r) = none by rw [HS.o, hs]; rfl)
    obtain ⟨rfl, hb⟩ := he.none_ hs
    clear he hs
    go_wp2_with fail
    exact ⟨rfl, Wo.no HW.o (HB3.o.trans hb)⟩
   ·have HW := jQ (show Dd.draftE (k :: r) = some (d, r3) by rw [HS.o, hs]; rfl)
    obtain ⟨rfl, hb, hz⟩ := he.some_ hs
    have HB4 := jQ (HB3.o.trans hb)
    have HZ4 := jQ hz
    have HK4 := jQ (hb.bk HK3.o hne)
    have HD4 := jQ (hb.bk HD3.o hnd)
    clear he hb hz hs
    simp only [uv]
    go_wp2_with (first | (refine wpList_load_row rfl 130 (.tmp 4) rfl gd rfl 130 _ (0, 0) _ HD4.o Tryz.underlying130 rfl (by kernel_rfl) ?_) | (refine wpList_store_row rfl 130 (.tmp 2) (.tmp 13) rfl W.heap.size _ rfl rfl 130 _ HK4.o (by kernel_rfl) rfl (by kernel_rfl) ?_))
    have hk := HK4.o.row (drcells d).toArray
    have hB := But.row (X := fun k => k = b ∨ k = W.heap.size) (g := W.heap.size) (HB4.o.mono (fun k h => .inl h)) (.inr rfl) (drcells d).toArray
    have hZ := HZ4.o.but (But.row (X := fun k => k = W.heap.size) (g := W.heap.size) (But.refl _ _) rfl (drcells d).toArray) (fun k hk e => by have := HBL.o; omega)
    refine bodyPost_ret (results_cell_row1 rfl _ _ W.heap.size 130 _ (0, 0) _ rfl hk Tryz.underlying130 rfl (by kernel_rfl)) rfl ?_
    exact Wo.yes (val := drval) HW.o ⟨hB.os, hB.tape, hB.output, hB.size, fun k h1 h2 => hB.block k h1 (by rintro (e | e) <;> omega)⟩ hZ
def Po (w : World) (i : Int) (e : Ending) (w' : World) : Prop := (e = if i < 0 then .panicked [pan 5] else .returned (.int .i64 i)) ∧ Below w.heap.size w w'
theorem placeTx_any (A : Option Addr) (c : Nat) (ys : List Cs.Bs) (s : Cs.Bs) (w : World) (hR : Rd w w.heap.size 1 A ys.length (wcells ys)) (hl : ys.length ≤ 1000000) :
  Calls Tryz.prog 160 #[.slice A ys.length c, .string ⟨s.toArray⟩, .func (.func 77) #[] #[]] w (Po w (Dd.idx ys s)) := by
 have H0 := jQ (namTx_any A c ys s w hR hl)
 obtain ⟨i, hi⟩ : ∃ i, Dd.idx ys s = i := ⟨_, rfl⟩
 rw [hi] at H0 ⊢
 clear hR hi
 by_cases h : i < 0
 ·have g0 : decide (i ≥ 0) = false := decide_eq_false (by omega)
  have N0 := jQ (need_no 5)
  have HP := jQ h
  clear h
  go_enter Tryz.func160, Tryz.ntmps160
  go_wp2_with fail
  refine H0.o.mono ?_
  rintro e w1 ⟨rfl, hb1⟩
  have HB1 := jQ hb1
  clear hb1
  go_wp2_with fail
  refine (N0.o _).mono ?_
  rintro e w2 ⟨rfl, hb2⟩
  go_wp2_with fail
  exact ⟨rfl, by rw [if_pos HP.o], HB1.o.trans (hb2.mono HB1.o.size)⟩
 ·have g0 : decide (i ≥ 0) = true := decide_eq_true (by omega)
  have N0 := jQ (need_yes 5)
  have HP := jQ h
  clear h
  go_enter Tryz.func160, Tryz.ntmps160
  go_wp2_with fail
  refine H0.o.mono ?_
  rintro e w1 ⟨rfl, hb1⟩
  have HB1 := jQ hb1
  clear hb1
  go_wp2_with fail
  refine (N0.o _).mono ?_
  rintro e w2 ⟨rfl, hb2⟩
  have HB2 := jQ (HB1.o.trans (hb2.mono HB1.o.size))
  clear hb2
  go_wp2_with fail
  go_ret
  exact ⟨(if_neg (show ¬ i < 0 by have := HP.o; omega)).symm, HB2.o⟩
theorem placeSt_any (A : Option Addr) (c : Nat) (ys : List (Cs.Bs × Int)) (s : Cs.Bs) (w : World) (hR : Rd w w.heap.size 2 A ys.length (scells ys)) (hl : ys.length ≤ 1000000) :
  Calls Tryz.prog 161 #[.slice A ys.length c, .string ⟨s.toArray⟩, .func (.func 75) #[] #[]] w (Po w (Dd.idx (ys.map (·.1)) s)) := by
 have H0 := jQ (namSt_any A c ys s w hR hl)
 obtain ⟨i, hi⟩ : ∃ i, Dd.idx (ys.map (·.1)) s = i := ⟨_, rfl⟩
 rw [hi] at H0 ⊢
 clear hR hi
 by_cases h : i < 0
 ·have g0 : decide (i ≥ 0) = false := decide_eq_false (by omega)
  have N0 := jQ (need_no 5)
  have HP := jQ h
  clear h
  go_enter Tryz.func161, Tryz.ntmps161
  go_wp2_with fail
  refine H0.o.mono ?_
  rintro e w1 ⟨rfl, hb1⟩
  have HB1 := jQ hb1
  clear hb1
  go_wp2_with fail
  refine (N0.o _).mono ?_
  rintro e w2 ⟨rfl, hb2⟩
  go_wp2_with fail
  exact ⟨rfl, by rw [if_pos HP.o], HB1.o.trans (hb2.mono HB1.o.size)⟩
 ·have g0 : decide (i ≥ 0) = true := decide_eq_true (by omega)
  have N0 := jQ (need_yes 5)
  have HP := jQ h
  clear h
  go_enter Tryz.func161, Tryz.ntmps161
  go_wp2_with fail
  refine H0.o.mono ?_
  rintro e w1 ⟨rfl, hb1⟩
  have HB1 := jQ hb1
  clear hb1
  go_wp2_with fail
  refine (N0.o _).mono ?_
  rintro e w2 ⟨rfl, hb2⟩
  have HB2 := jQ (HB1.o.trans (hb2.mono HB1.o.size))
  clear hb2
  go_wp2_with fail
  go_ret
  exact ⟨(if_neg (show ¬ i < 0 by have := HP.o; omega)).symm, HB2.o⟩
end
end Go.Proofs.YtccikcpcfdjobaaGreatDoor
