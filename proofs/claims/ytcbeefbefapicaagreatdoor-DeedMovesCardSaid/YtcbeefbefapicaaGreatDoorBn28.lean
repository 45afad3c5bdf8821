/-
  What the claims of layer deed need of the texts DMap, DBm, DBs.
-/
import Derived.MapKept
import Derived.Carry
import Derived.Test.YtcbeefbefapicaaGreatDoorBn27
import Derived.Test.YtcbeefbefapicaaGreatDoorBn16
import Derived.Test.YtcbeefbefapicaaGreatDoorBn25
import Derived.Test.YtcbeefbefapicaaGreatDoorBn06
set_option linter.unusedVariables false
set_option linter.unusedSimpArgs false
namespace Go.Proofs.YtcbeefbefapicaaGreatDoor
open Go.RowKit
set_option maxRecDepth 100000
theorem run_check_str {P : Program} {w : World} {kt : TypeId} (hk : P.underlying kt = some .string) (e : Bool) (s : ByteArray) : (Instr.checkKey e 10000 kt (.string s)).run P w = .ok () w :=
 MapKept.run_checkKey hk (by trivial) e 9999
theorem run_find_str {P : Program} {w : World} {kt : TypeId} (hk : P.underlying kt = some .string) (s : ByteArray) (es : List MapEntry) (r : Option (Nat × Value)) (h : Instr.findNow .string (.string s) es 0 = some r) : (Instr.findKey kt (.string s) es).run P w = .ok r w := by
 simp [Instr.findKey, run_underlying hk, h, Result.andThen]
theorem run_put_str {P : Program} {w : World} {t kt et : TypeId} {b : Nat} {es : Array MapEntry} {c : Nat} (ht : P.underlying t = some (.map kt et)) (hk : P.underlying kt = some .string) (hb : w.heap[b]? = some (.map es c)) (s : ByteArray) (v : Value)
  (h : Instr.findNow .string (.string s) es.toList 0 = some none) : (Instr.mapUpdate t (.map (some b)) (.string s) v).run P w = .ok () (w.putObj b (.map (es.push ⟨.string s, v, c⟩) (c + 1))) := by
 simp [Instr.mapUpdate, run_underlying ht, MapKept.run_getObj_map hb, run_check_str hk, run_find_str hk _ _ _ h, MapKept.run_setObj_map _ hb, Result.andThen, World.putObj]
theorem run_look_str {P : Program} {w : World} {t kt et : TypeId} {b : Nat} {es : Array MapEntry} {c : Nat} (ht : P.underlying t = some (.map kt et)) (hk : P.underlying kt = some .string) (hb : w.heap[b]? = some (.map es c)) (s : ByteArray) (i : Nat) (v : Value)
  (h : Instr.findNow .string (.string s) es.toList 0 = some (some (i, v))) : (Instr.lookup t (.map (some b)) (.string s) true).run P w = .ok (.tuple #[v, .bool true]) w := by
 simp [Instr.lookup, run_underlying ht, MapKept.run_getObj_map hb, run_check_str hk, run_find_str hk _ _ _ h, Result.andThen]
theorem run_miss_str {P : Program} {w : World} {t kt et : TypeId} {b : Nat} {es : Array MapEntry} {c : Nat} (ht : P.underlying t = some (.map kt et)) (hk : P.underlying kt = some .string) (hb : w.heap[b]? = some (.map es c)) (s : ByteArray) (z : Value) (hz : (zeroValue et).run P w = .ok z w)
  (h : Instr.findNow .string (.string s) es.toList 0 = some none) : (Instr.lookup t (.map (some b)) (.string s) true).run P w = .ok (.tuple #[z, .bool false]) w := by
 simp [Instr.lookup, run_underlying ht, MapKept.run_getObj_map hb, run_check_str hk, run_find_str hk _ _ _ h, hz, Result.andThen]
theorem wpList_insert_str {P : Program} {ops : Array Oper} {rest : List Oper} {o : Oper} {a : Act} {w : World} {Q : Exit → Act → World → Prop} (hgd : o.guard = none) (t : TypeId) (m k x : Operand) (ho : o.op = .insert t m k x)
  (b : Nat) (hm : a.eval m = .map (some b)) (s : ByteArray) (hk : a.eval k = .string s) (v : Value) (hv : a.eval x = v) (kt et : TypeId) (ht : P.underlying t = some (.map kt et)) (hkt : P.underlying kt = some .string)
  (es : Array MapEntry) (c : Nat) (hb : w.heap[b]? = some (.map es c)) (hn : Instr.findNow .string (.string s) es.toList 0 = some none)
  (h : wpList P ops Q rest (a.put o.dst undef) (w.putObj b (.map (es.push ⟨.string s, v, c⟩) (c + 1)))) : wpList P ops Q (o :: rest) a w := by
 refine wpList_plain hgd fun K hK => ?_
 unfold Oper.wp
 simp only [execOp, ho, hm, hk, hv, run_put_str ht hkt hb s v hn, Sem.run_bind, Sem.run_pure, Result.andThen_ok]
 exact hK _ _ h
theorem putObj_heap {w : World} {b : Nat} {o p : Obj} (h : w.heap[b]? = some p) : (w.putObj b o).heap[b]? = some o := World.putObj_heap_same (Array.getElem?_eq_some_iff.1 h).1
theorem Below.putNew {B : Nat} {a w : World} (h : Below B a w) {b : Nat} (hb : B ≤ b) (o : Obj) : Below B a (w.putObj b o) :=
 h.trans ⟨rfl, rfl, rfl, by simp [World.putObj], fun k hk => World.putObj_heap_other (by omega)⟩
theorem ne_ba {a b : Cs.Bs} (h : ¬ a = b) : ((⟨a.toArray⟩ : ByteArray) == ⟨b.toArray⟩) = false := by
 rw [beq_toListBytes]
 simp [h]
def fes : Array MapEntry := #[⟨.string ⟨Dd.kStation.toArray⟩, .func (.func 94) #[] #[], 0⟩, ⟨.string ⟨Dd.kLimit.toArray⟩, .func (.func 95) #[] #[], 1⟩,
 ⟨.string ⟨Dd.kParcel.toArray⟩, .func (.func 96) #[] #[], 2⟩, ⟨.string ⟨Dd.kVariation.toArray⟩, .func (.func 97) #[] #[], 3⟩]
def ces : Array MapEntry := #[⟨.string ⟨Dd.kStone.toArray⟩, .func (.func 129) #[] #[], 0⟩, ⟨.string ⟨Dd.kWidth.toArray⟩, .func (.func 130) #[] #[], 1⟩, ⟨.string ⟨Dd.kCourse.toArray⟩, .func (.func 131) #[] #[], 2⟩,
 ⟨.string ⟨Dd.kAlong.toArray⟩, .func (.func 132) #[] #[], 3⟩, ⟨.string ⟨Dd.kLevel.toArray⟩, .func (.func 133) #[] #[], 4⟩]
def ftab (k : Cs.Bs) : Option Nat := if k = Dd.kStation then some 94 else if k = Dd.kLimit then some 95 else if k = Dd.kParcel then some 96 else if k = Dd.kVariation then some 97 else none
def ctab (k : Cs.Bs) : Option Nat := if k = Dd.kStone then some 129 else if k = Dd.kWidth then some 130 else if k = Dd.kCourse then some 131 else if k = Dd.kAlong then some 132 else if k = Dd.kLevel then some 133 else none
set_option maxHeartbeats 4000000 in
theorem fieldForms_any (w : World) : Calls Tryz.prog 55 #[] w fun e w' => ∃ b, w.heap.size ≤ b ∧ e = .returned (.map (some b)) ∧ w'.heap[b]? = some (.map fes 4) ∧ Below w.heap.size w w' := by
 have hmk := fun t (w : World) => run_makeMap (P := Tryz.prog) t w
 have h0 : (w.alloc (.map #[] 0)).heap[w.heap.size]? = some (.map #[] 0) := World.alloc_heap_new _ _
 go_enter Tryz.func55, Tryz.ntmps55
 go_wp2_with (refine wpList_insert_str rfl 101 (.tmp 1) _ _ rfl w.heap.size rfl _ rfl _ rfl _ _ Tryz.underlying101 Tryz.underlying9 _ _ (by with_reducible first | exact h0 | exact putObj_heap (h0) | exact putObj_heap (putObj_heap (h0)) | exact putObj_heap (putObj_heap (putObj_heap (h0)))) (by kernel_rfl) ?_)
 go_ret
 exact ⟨w.heap.size, Nat.le_refl _, rfl, putObj_heap (putObj_heap (putObj_heap (putObj_heap (h0)))), (Below.putNew (Below.putNew (Below.putNew (Below.putNew ((Below.refl w.heap.size w).alloc (Nat.le_refl _) (.map #[] 0)) (Nat.le_refl _) _) (Nat.le_refl _) _) (Nat.le_refl _) _) (Nat.le_refl _) _)⟩
set_option maxHeartbeats 4000000 in
theorem callForms_any (w : World) : Calls Tryz.prog 105 #[] w fun e w' => ∃ b, w.heap.size ≤ b ∧ e = .returned (.map (some b)) ∧ w'.heap[b]? = some (.map ces 5) ∧ Below w.heap.size w w' := by
 have hmk := fun t (w : World) => run_makeMap (P := Tryz.prog) t w
 have h0 : (w.alloc (.map #[] 0)).heap[w.heap.size]? = some (.map #[] 0) := World.alloc_heap_new _ _
 go_enter Tryz.func105, Tryz.ntmps105
 go_wp2_with (refine wpList_insert_str rfl 157 (.tmp 1) _ _ rfl w.heap.size rfl _ rfl _ rfl _ _ Tryz.underlying157 Tryz.underlying9 _ _ (by with_reducible first | exact h0 | exact putObj_heap (h0) | exact putObj_heap (putObj_heap (h0)) | exact putObj_heap (putObj_heap (putObj_heap (h0))) | exact putObj_heap (putObj_heap (putObj_heap (putObj_heap (h0))))) (by kernel_rfl) ?_)
 go_ret
 exact ⟨w.heap.size, Nat.le_refl _, rfl, putObj_heap (putObj_heap (putObj_heap (putObj_heap (putObj_heap (h0))))), (Below.putNew (Below.putNew (Below.putNew (Below.putNew (Below.putNew ((Below.refl w.heap.size w).alloc (Nat.le_refl _) (.map #[] 0)) (Nat.le_refl _) _) (Nat.le_refl _) _) (Nat.le_refl _) _) (Nat.le_refl _) _) (Nat.le_refl _) _)⟩
def tabW (tab : Cs.Bs → Option Nat) : List Cs.Bs → Option (Nat × List Cs.Bs)
 | [] => none
 | k :: r => match tab k with | some n => some (n, r) | none => none
def fnv : Nat → Value := fun n => .func (.func n) #[] #[]
theorem ffind (k : Cs.Bs) : (∃ i n, ftab k = some n ∧ Instr.findNow .string (.string ⟨k.toArray⟩) fes.toList 0 = some (some (i, .func (.func n) #[] #[]))) ∨ (ftab k = none ∧ Instr.findNow .string (.string ⟨k.toArray⟩) fes.toList 0 = some none) := by
 unfold ftab
 by_cases h0 : k = Dd.kStation
 ·subst h0; exact .inl ⟨0, _, rfl, by kernel_rfl⟩
 by_cases h1 : k = Dd.kLimit
 ·subst h1; exact .inl ⟨1, _, rfl, by kernel_rfl⟩
 by_cases h2 : k = Dd.kParcel
 ·subst h2; exact .inl ⟨2, _, rfl, by kernel_rfl⟩
 by_cases h3 : k = Dd.kVariation
 ·subst h3; exact .inl ⟨3, _, rfl, by kernel_rfl⟩
 right
 refine ⟨by simp [h0, h1, h2, h3], ?_⟩
 simp [fes, Instr.findNow, Instr.sameNow, h0, h1, h2, h3, ne_ba h0, ne_ba h1, ne_ba h2, ne_ba h3]
theorem cfind (k : Cs.Bs) : (∃ i n, ctab k = some n ∧ Instr.findNow .string (.string ⟨k.toArray⟩) ces.toList 0 = some (some (i, .func (.func n) #[] #[]))) ∨ (ctab k = none ∧ Instr.findNow .string (.string ⟨k.toArray⟩) ces.toList 0 = some none) := by
 unfold ctab
 by_cases h0 : k = Dd.kStone
 ·subst h0; exact .inl ⟨0, _, rfl, by kernel_rfl⟩
 by_cases h1 : k = Dd.kWidth
 ·subst h1; exact .inl ⟨1, _, rfl, by kernel_rfl⟩
 by_cases h2 : k = Dd.kCourse
 ·subst h2; exact .inl ⟨2, _, rfl, by kernel_rfl⟩
 by_cases h3 : k = Dd.kAlong
 ·subst h3; exact .inl ⟨3, _, rfl, by kernel_rfl⟩
 by_cases h4 : k = Dd.kLevel
 ·subst h4; exact .inl ⟨4, _, rfl, by kernel_rfl⟩
 right
 refine ⟨by simp [h0, h1, h2, h3, h4], ?_⟩
 simp [ces, Instr.findNow, Instr.sameNow, h0, h1, h2, h3, h4, ne_ba h0, ne_ba h1, ne_ba h2, ne_ba h3, ne_ba h4]
set_option maxHeartbeats 4000000 in
theorem freader_any (mb b : Nat) (l : List Cs.Bs) (W : World) (hm : W.heap[mb]? = some (.map fes 4)) (hne : mb ≠ b) (h : Wz W b l) :
  Calls Tryz.prog 58 #[.map (some mb), .pointer (some ⟨b, 0, none⟩)] W (Wo b W fnv (tabW ftab l)) := by
 have hlm := (Array.getElem?_eq_some_iff.1 hm).1
 rcases l with _ | ⟨k, r⟩
 ·have H0 := Lib.hid (next_any b [] W h)
  clear h hm
  go_enter Tryz.func58, Tryz.ntmps58
  go_wp2_with fail
  refine H0.out.mono ?_
  intro e w1 he
  obtain ⟨rfl, hb⟩ := he.none_ rfl
  clear he
  go_wp2_with fail
  exact ⟨rfl, Wo.no rfl hb⟩
 ·have H0 := Lib.hid (next_any b (k :: r) W h)
  rcases ffind k with ⟨i, n, ht, hf⟩ | ⟨ht, hf⟩
  ·have HL := Lib.hid (fun (W1 : World) (hb : But (fun x => x = b) W W1) => run_look_str (P := Tryz.prog) (t := 101) Tryz.underlying101 Tryz.underlying9 ((hb.block mb hlm hne).trans hm) ⟨k.toArray⟩ i _ hf)
   have HW := Lib.hid (show tabW ftab (k :: r) = some (n, r) by simp [tabW, ht])
   have N0 := Lib.hid (need_yes 4)
   clear h hm ht hf
   go_enter Tryz.func58, Tryz.ntmps58
   go_wp2_with fail
   refine H0.out.mono ?_
   intro e w1 he
   obtain ⟨rfl, hb, hz⟩ := he.some_ rfl
   have hlk := HL.out _ hb
   have HB := Lib.hid hb
   have HZ := Lib.hid hz
   clear he hb hz
   simp only [sv_def]
   go_wp2_with fail
   refine (N0.out _).mono ?_
   rintro e w3 ⟨rfl, hb3⟩
   have HB3 := Lib.hid hb3
   clear hb3
   go_wp2_with fail
   go_ret
   exact Wo.yes (val := fnv) HW.out (HB.out.trans (But.of HB3.out)) (HZ.out.below HB3.out)
  ·have HL := Lib.hid (fun (W1 : World) (hb : But (fun x => x = b) W W1) => run_miss_str (P := Tryz.prog) (t := 101) Tryz.underlying101 Tryz.underlying9 ((hb.block mb hlm hne).trans hm) ⟨k.toArray⟩ _ (Tryz.zeroValue105 _) hf)
   have HW := Lib.hid (show tabW ftab (k :: r) = none by simp [tabW, ht])
   have N0 := Lib.hid (need_no 4)
   clear h hm ht hf
   go_enter Tryz.func58, Tryz.ntmps58
   go_wp2_with fail
   refine H0.out.mono ?_
   intro e w1 he
   obtain ⟨rfl, hb, hz⟩ := he.some_ rfl
   have hlk := HL.out _ hb
   have HB := Lib.hid hb
   clear he hb hz
   simp only [sv_def]
   go_wp2_with fail
   refine (N0.out _).mono ?_
   rintro e w3 ⟨rfl, hb3⟩
   go_wp2_with fail
   exact ⟨rfl, Wo.no HW.out (HB.out.trans (But.of hb3))⟩
set_option maxHeartbeats 4000000 in
theorem creader_any (mb b : Nat) (l : List Cs.Bs) (W : World) (hm : W.heap[mb]? = some (.map ces 5)) (hne : mb ≠ b) (h : Wz W b l) :
  Calls Tryz.prog 104 #[.map (some mb), .pointer (some ⟨b, 0, none⟩)] W (Wo b W fnv (tabW ctab l)) := by
 have hlm := (Array.getElem?_eq_some_iff.1 hm).1
 rcases l with _ | ⟨k, r⟩
 ·have H0 := Lib.hid (next_any b [] W h)
  clear h hm
  go_enter Tryz.func104, Tryz.ntmps104
  go_wp2_with fail
  refine H0.out.mono ?_
  intro e w1 he
  obtain ⟨rfl, hb⟩ := he.none_ rfl
  clear he
  go_wp2_with fail
  exact ⟨rfl, Wo.no rfl hb⟩
 ·have H0 := Lib.hid (next_any b (k :: r) W h)
  rcases cfind k with ⟨i, n, ht, hf⟩ | ⟨ht, hf⟩
  ·have HL := Lib.hid (fun (W1 : World) (hb : But (fun x => x = b) W W1) => run_look_str (P := Tryz.prog) (t := 157) Tryz.underlying157 Tryz.underlying9 ((hb.block mb hlm hne).trans hm) ⟨k.toArray⟩ i _ hf)
   have HW := Lib.hid (show tabW ctab (k :: r) = some (n, r) by simp [tabW, ht])
   have N0 := Lib.hid (need_yes 4)
   clear h hm ht hf
   go_enter Tryz.func104, Tryz.ntmps104
   go_wp2_with fail
   refine H0.out.mono ?_
   intro e w1 he
   obtain ⟨rfl, hb, hz⟩ := he.some_ rfl
   have hlk := HL.out _ hb
   have HB := Lib.hid hb
   have HZ := Lib.hid hz
   clear he hb hz
   simp only [sv_def]
   go_wp2_with fail
   refine (N0.out _).mono ?_
   rintro e w3 ⟨rfl, hb3⟩
   have HB3 := Lib.hid hb3
   clear hb3
   go_wp2_with fail
   go_ret
   exact Wo.yes (val := fnv) HW.out (HB.out.trans (But.of HB3.out)) (HZ.out.below HB3.out)
  ·have HL := Lib.hid (fun (W1 : World) (hb : But (fun x => x = b) W W1) => run_miss_str (P := Tryz.prog) (t := 157) Tryz.underlying157 Tryz.underlying9 ((hb.block mb hlm hne).trans hm) ⟨k.toArray⟩ _ (Tryz.zeroValue114 _) hf)
   have HW := Lib.hid (show tabW ctab (k :: r) = none by simp [tabW, ht])
   have N0 := Lib.hid (need_no 4)
   clear h hm ht hf
   go_enter Tryz.func104, Tryz.ntmps104
   go_wp2_with fail
   refine H0.out.mono ?_
   intro e w1 he
   obtain ⟨rfl, hb, hz⟩ := he.some_ rfl
   have hlk := HL.out _ hb
   have HB := Lib.hid hb
   clear he hb hz
   simp only [sv_def]
   go_wp2_with fail
   refine (N0.out _).mono ?_
   rintro e w3 ⟨rfl, hb3⟩
   go_wp2_with fail
   exact ⟨rfl, Wo.no HW.out (HB.out.trans (But.of hb3))⟩
end Go.Proofs.YtcbeefbefapicaaGreatDoor

namespace Go.Proofs.YtcbeefbefapicaaGreatDoor
namespace Dd
theorem flat2_len {α β : Type} {g : α → List β} (hg : ∀ a, (g a).length = 2) (l : List α) : (l.flatMap g).length = 2 * l.length := by
 induction l with
 | nil => rfl
 | cons a t ih => rw [List.flatMap_cons, List.length_append, hg, ih, List.length_cons]; omega
theorem flat2_at {α β : Type} {g : α → List β} (hg : ∀ a, (g a).length = 2) (l : List α) {k j : Nat} (hk : k < l.length) (hj : j < 2) : (l.flatMap g)[2 * k + j]? = (g l[k])[j]? := by
  induction l generalizing k with
  | nil => simp at hk
  | cons a t ih =>
    rw [List.flatMap_cons]
    cases k with
    | zero =>
      rw [List.getElem?_append_left (by rw [hg]; omega)]
      simp
    | succ k =>
      rw [List.getElem?_append_right (by rw [hg]; omega), hg, show 2 * (k + 1) + j - 2 = 2 * k + j by omega]
      simpa using ih (k := k) (by simpa using hk)
theorem bnds_len (f : Fd) (x : Ca) (r : Int) : (bnds f x r).length = 2 * (gapsF f x).length := flat2_len (fun _ => rfl) _
theorem callE_zero {f : Fd} {x : Ca} (h : callE f x = 0) : fieldE f = 0 ∧ callG f x = 0 := by
 unfold callE at h
 by_cases h0 : fieldE f = 0
 ·rw [if_neg (by simp [h0])] at h
  exact ⟨h0, h⟩
 ·rw [if_pos h0] at h
  exact absurd h h0
theorem drw_val {f : Fd} {y : List Int} (h : drw f y = true) {n : Nat} (hn : n < y.length) : at_ y (n : Int) = y[n] ∧ -400000000 ≤ y[n] ∧ y[n] ≤ 400000000 := by
 refine ⟨by rw [at_nat]; simp [hn], ?_⟩
 unfold drw at h
 simp only [Bool.and_eq_true, decide_eq_true_eq, List.all_eq_true] at h
 exact h.1.2 _ (List.getElem_mem hn)
abbrev Ib (f : Fd) (x : Ca) (r : Int) : Type := { b : Bd // b ∈ bnds f x r }
theorem bnds_at (f : Fd) (x : Ca) (r : Int) {k : Nat} (hk : k < (gapsF f x).length) :
  ∃ (h1 : (⟨(gapsF f x)[k].1, (gapsF f x)[k].2.1, (gapsF f x)[k].2.2.2, r⟩ : Bd) ∈ bnds f x r) (h2 : (⟨(gapsF f x)[k].2.1, (gapsF f x)[k].1, -(gapsF f x)[k].2.2.1, r⟩ : Bd) ∈ bnds f x r),
   (bnds f x r).attach.take (2 * k) ++ [⟨_, h1⟩] = (bnds f x r).attach.take (2 * k + 1) ∧ (bnds f x r).attach.take (2 * k + 1) ++ [⟨_, h2⟩] = (bnds f x r).attach.take (2 * (k + 1)) := by
 have e1 : (bnds f x r)[2 * k + 0]? = some ⟨(gapsF f x)[k].1, (gapsF f x)[k].2.1, (gapsF f x)[k].2.2.2, r⟩ := flat2_at (g := pairB r) (fun _ => rfl) _ hk (by decide)
 have e2 : (bnds f x r)[2 * k + 1]? = some ⟨(gapsF f x)[k].2.1, (gapsF f x)[k].1, -(gapsF f x)[k].2.2.1, r⟩ := flat2_at (g := pairB r) (fun _ => rfl) _ hk (by decide)
 rw [Nat.add_zero] at e1
 obtain ⟨g1, e1⟩ := List.getElem?_eq_some_iff.1 e1
 obtain ⟨g2, e2⟩ := List.getElem?_eq_some_iff.1 e2
 have m1 : (⟨(gapsF f x)[k].1, (gapsF f x)[k].2.1, (gapsF f x)[k].2.2.2, r⟩ : Bd) ∈ bnds f x r := by rw [← e1]; exact List.getElem_mem g1
 have m2 : (⟨(gapsF f x)[k].2.1, (gapsF f x)[k].1, -(gapsF f x)[k].2.2.1, r⟩ : Bd) ∈ bnds f x r := by rw [← e2]; exact List.getElem_mem g2
 refine ⟨m1, m2, ?_, ?_⟩
 ·have : (bnds f x r).attach[2 * k]? = some ⟨_, m1⟩ := by simp [g1, e1]
  rw [List.take_add_one, this]
  rfl
 ·have : (bnds f x r).attach[2 * k + 1]? = some ⟨_, m2⟩ := by simp [g2, e2]
  rw [show 2 * (k + 1) = (2 * k + 1) + 1 by omega, List.take_add_one (i := 2 * k + 1), this]
  rfl
theorem bnds_of (f : Fd) (x : Ca) (r : Int) {k : Nat} (hk : k < (gapsF f x).length) {p q lo hi : Int} (hg : (gapsF f x)[k] = (p, q, lo, hi)) :
  ∃ (h1 : (⟨p, q, hi, r⟩ : Bd) ∈ bnds f x r) (h2 : (⟨q, p, -lo, r⟩ : Bd) ∈ bnds f x r),
   (bnds f x r).attach.take (2 * k) ++ [⟨_, h1⟩] = (bnds f x r).attach.take (2 * k + 1) ∧ (bnds f x r).attach.take (2 * k + 1) ++ [⟨_, h2⟩] = (bnds f x r).attach.take (2 * (k + 1)) := by
 have h := bnds_at f x r hk
 rw [hg] at h
 exact h
theorem along_zero {f : Fd} {c : Ca} {g : Int × Int × Int × Int} : ∀ (n : Nat) (s : Int), g ∈ gapAlong f c n s → g.2.2.1 = 0
  | 0, s, h => by cases h
  | n + 1, s, h => by
    rcases List.mem_cons.1 h with rfl | h
    · rfl
    · exact along_zero n (s + 1) h
theorem gaps_low {f : Fd} {x : Ca} (h : callE f x = 0) {g : Int × Int × Int × Int} (hg : g ∈ gapsF f x) : -1000000 ≤ g.2.2.1 ∧ g.2.2.1 ≤ 1000000 := by
 have hG : callG f x = 0 := by
  unfold callE at h
  by_cases h0 : fieldE f = 0
  ·rwa [if_neg (by simp [h0])] at h
  ·rw [if_pos h0] at h; exact absurd h h0
 obtain ⟨ht, ho, hb, h3⟩ := callG_zero hG
 simp only [there, Bool.and_eq_true, decide_eq_true_eq] at ht
 obtain ⟨⟨_, t5⟩, t6⟩ := ht
 unfold gapsF at hg
 split at hg
 ·rw [List.mem_singleton] at hg; subst hg; dsimp only; omega
 ·split at hg
  ·rw [List.mem_singleton] at hg; subst hg; dsimp only; omega
  ·split at hg
   ·rename_i k3
    rw [List.mem_singleton] at hg
    subst hg
    dsimp only
    obtain ⟨e1, e2⟩ := h3 k3
    have he : Cs.eastE f.va [x.c] (run f x) = 0 := by
     rcases Int.decEq (Cs.eastE f.va [x.c] (run f x)) 0 with h | h
     ·rw [Cs.comF_err1 h] at e1; exact absurd e1 h
     ·exact h
    rw [Cs.comF_zero he]
    have hr := Cs.comG_range f.va (dx := run f x) [x.c] (-100000) 100000 (by decide) (by decide) (by decide)
    dsimp only
    omega
   ·split at hg
    ·rw [List.mem_singleton] at hg; subst hg; dsimp only; omega
    ·have := along_zero _ _ hg
     omega
theorem alongN (f : Fd) (c : Ca) : ∀ (n : Nat) (s : Int), (gapAlong f c n s).length = n
 | 0, _ => rfl
 | n + 1, s => by rw [gapAlong, List.length_cons, alongN f c n (s + 1)]
theorem gaps_len {f : Fd} {x : Ca} (h : callE f x = 0) : (gapsF f x).length ≤ f.st.length + 1 := by
 have hG : callG f x = 0 := by
  unfold callE at h
  by_cases h0 : fieldE f = 0
  ·rwa [if_neg (by simp [h0])] at h
  ·rw [if_pos h0] at h; exact absurd h h0
 have ht := (callG_zero hG).1
 simp only [there, isIx, Bool.and_eq_true, decide_eq_true_eq] at ht
 unfold gapsF
 split
 ·simp
 ·split
  ·simp
  ·split
   ·simp
   ·split
    ·simp
    ·rw [alongN]
     omega
end Dd
end Go.Proofs.YtcbeefbefapicaaGreatDoor

namespace Go.Proofs.YtcbeefbefapicaaGreatDoor
open Go.RowKit Go.Shelf
attribute [local go_sem] Oper.semAt_some
structure Yc (B Bf Bc Br : Nat) (v : Fv) (f : Dd.Fd) (x : Dd.Ca) (r : Int) (W : World) : Prop where
 kF : Bk W Bf 27 #[.slice v.a1 f.st.length v.c1, .slice v.a2 f.li.length v.c2, .slice v.a3 f.pa.length v.c3, .slice v.a4 f.va.length v.c4]
 kC : Bk W Bc 42 #[.int .u8 x.k, .int .i64 x.l, .int .i64 x.o, .int .i64 x.a, .int .i64 x.b, .int .i64 x.s, .int .i64 x.e, .int .i64 x.c.b, .int .i64 x.c.n, .int .i64 x.c.l, .int .i64 x.c.y, .int .i64 x.c.w, .int .i64 x.c.s]
 kR : Bk W Br 3 #[.int .i64 r]
 rd : FRd W B v f
 sn : Sn W
theorem Yc.keep {B Bf Bc Br M : Nat} {v : Fv} {f : Dd.Fd} {x : Dd.Ca} {r : Int} {X : Nat → Prop} {W W' : World} (h : Yc B Bf Bc Br v f x r W) (k : Kc M X W W') (h1 : ¬ X Bf) (h2 : ¬ X Bc) (h3 : ¬ X Br) (hX : ∀ j, X j → B ≤ j ∧ j < M) (hB : B ≤ M) (hg : 5 < B) (h4 : Bf < M) (h5 : Bc < M) (h6 : Br < M) : Yc B Bf Bc Br v f x r W' := by
 have hb : Below B W W' := k.kx.below hB (fun j hj hx => by have := (hX j hx).1; omega)
 exact ⟨k.bk h.kF h4 h1, k.bk h.kC h5 h2, k.bk h.kR h6 h3, h.rd.below hb (Nat.le_refl _), h.sn.below hb hg⟩
theorem Yc.below {B Bf Bc Br C : Nat} {v : Fv} {f : Dd.Fd} {x : Dd.Ca} {r : Int} {W W' : World} (h : Yc B Bf Bc Br v f x r W) (hb : Below C W W') (h1 : Bf < C) (h2 : Bc < C) (h3 : Br < C) (hB : B ≤ C) (hg : 5 < C) : Yc B Bf Bc Br v f x r W' :=
 ⟨h.kF.below hb h1, h.kC.below hb h2, h.kR.below hb h3, h.rd.below hb hB, h.sn.below hb hg⟩
def ibv {f : Dd.Fd} {x : Dd.Ca} {r : Int} (b : Dd.Ib f x r) : Array Value := #[bval b.1]
set_option maxRecDepth 100000 in
set_option maxHeartbeats 4000000 in
theorem bounds1_in (n : Nat) (hn : 1 ≤ n) (l Bf Bc Br M B : Nat) (X : Nat → Prop) (v : Fv) (f : Dd.Fd) (x : Dd.Ca) (r : Int) (he : Dd.callE f x = 0)
  (hX : ∀ j, X j → B ≤ j ∧ j < M) (h1 : ¬ X Bf) (h2 : ¬ X Bc) (h3 : ¬ X Br) (hB : B ≤ M) (hg : 5 < B) (h4 : Bf < M) (h5 : Bc < M) (h6 : Br < M) (J Jx : List (Dd.Ib f x r) → World → Prop) (W : World) (hM : M ≤ W.heap.size) (hJ : AbidesFrom W.heap.size J)
  (hY : ∀ pre y W, J pre W → pre.length < (Dd.bnds f x r).length → YieldAt Fence.wide (n - 1) Tryz.prog l (ibv y) W fun e W' =>
   (e = .returned (.bool true) ∧ J (pre ++ [y]) W' ∧ Kc M X W W') ∨ (e = .returned (.bool false) ∧ Jx (pre ++ [y]) W'))
  (hW : Yc B Bf Bc Br v f x r W) (h0 : J [] W) :
  CallsIn Fence.wide n Tryz.prog 71 #[.func (.yield l) #[] #[], .pointer (some ⟨Bf, 0, none⟩), .pointer (some ⟨Bc, 0, none⟩), .pointer (some ⟨Br, 0, none⟩)] W fun e W' => (∃ v, e = .returned v) ∧
   ((∃ ys, ys = (Dd.bnds f x r).attach ∧ J ys W') ∨ (∃ pre, pre <+: (Dd.bnds f x r).attach ∧ Jx pre W')) := by
 have g0 := fun w hF hS => gaps_any v f x w hF hS he
 have f0 := (hW.kF.cell 0).trans rfl
 have f1 := (hW.kF.cell 1).trans rfl
 have f2 := (hW.kF.cell 2).trans rfl
 have f3 := (hW.kF.cell 3).trans rfl
 have c0 := (hW.kC.cell 0).trans rfl
 have c1 := (hW.kC.cell 1).trans rfl
 have c2 := (hW.kC.cell 2).trans rfl
 have c3 := (hW.kC.cell 3).trans rfl
 have c4 := (hW.kC.cell 4).trans rfl
 have c5 := (hW.kC.cell 5).trans rfl
 have c6 := (hW.kC.cell 6).trans rfl
 have c7 := (hW.kC.cell 7).trans rfl
 have c8 := (hW.kC.cell 8).trans rfl
 have c9 := (hW.kC.cell 9).trans rfl
 have c10 := (hW.kC.cell 10).trans rfl
 have c11 := (hW.kC.cell 11).trans rfl
 have c12 := (hW.kC.cell 12).trans rfl
 simp only [fval_def, caval_def] at g0
 have G0 := Lib.hid g0
 have HW := Lib.hid hW
 have HJ := Lib.hid hJ
 have HY := Lib.hid hY
 have HX := Lib.hid hX
 have HE := Lib.hid he
 clear g0 hW hJ hY hX he
 refine callsIn_of_wp Tryz.func71 rfl trivial ?_ rfl
 simp only [Tryz.ntmps71, List.size_toArray, List.length_cons, List.length_nil, Nat.reduceAdd, Nat.reduceSub, Array.replicate_succ, Array.replicate_zero, List.push_toArray, List.append_toArray, List.nil_append, List.cons_append]
 gi_wp2_with (refine ⟨trivial, ?_⟩; gi_at_call 72; refine (callsIn_wide.2 (G0.out _ (HW.out.rd.more (Nat.le_trans hB hM)) HW.out.sn)).mono ?_; rintro e w1 ⟨A, c, rfl, hrd, hb, hfr⟩)
 have hJ1 : J [] w1 := HJ.out _ _ _ none h0 ⟨hb.os, hb.tape, hb.output, hb.size, fun k hk _ => hb.block k hk⟩ (fun r e => by cases e)
 have hK1 : Kc M X W w1 := Kc.of_below hb hM
 have hgl := Dd.gaps_len HE.out
 have hl1 := HW.out.rd.l1
 have hMw := Nat.le_trans hM hb.size
 have hz := hb.size
 have HRD := Lib.hid hrd
 have HFR := Lib.hid hfr
 have HB := Lib.hid hb
 clear f0 f1 f2 f3 c0 c1 c2 c3 c4 c5 c6 c7 c8 c9 c10 c11 c12 hrd hfr hb h0
 gi_loopw [11] (fun i wr => ∃ k : Nat, k ≤ (Dd.gapsF f x).length ∧ i = .int .i64 k ∧ J ((Dd.bnds f x r).attach.take (2 * k)) wr ∧ Kc M X w1 wr) (fun i _ => (Dd.gapsF f x).length - (intOf i).toNat)
 case atStart => exact ⟨0, Nat.zero_le _, rfl, by simpa using hJ1, Kc.refl _ _ _⟩
 case round =>
  obtain ⟨k, hk, rfl, hJs, hK⟩ := hrel
  by_cases hlt : k < (Dd.gapsF f x).length
  ·obtain ⟨b, off, rfl, hbl, e0, e1, e2, e3⟩ := (hK.rd HRD.out HFR.out).gap hlt
   have hlo := Dd.gaps_low HE.out (List.getElem_mem hlt)
   have hbn := Dd.bnds_len f x r
   obtain ⟨⟨p, q, lo, hi⟩, hgg⟩ : ∃ g, (Dd.gapsF f x)[k] = g := ⟨_, rfl⟩
   obtain ⟨m1, m2, t1, t2⟩ := Dd.bnds_of f x r hlt hgg
   simp only [hgg] at e0 e1 e2 e3 hlo
   clear hgg
   have hwz : w1.heap.size ≤ wr.heap.size := hK.kx.size
   have hbw : b < wr.heap.size := Nat.lt_of_lt_of_le hbl hwz
   have kR := (hK1.trans hK).bk HW.out.kR h6 h3
   have r0 := (kR.cell 0).trans rfl
   have hRl : Br < wr.heap.size := kR.lt
   have hJ2 : J ((Dd.bnds f x r).attach.take (2 * k)) (wr.alloc (.cells #[.int .i64 p, .int .i64 q, .int .i64 lo, .int .i64 hi] 129)) := HJ.out _ _ _ none hJs (World.grownBy_alloc wr _ none) (fun r e => by cases e)
   have hK2 := hK.alloc (Nat.le_trans hMw hwz) (.cells #[.int .i64 p, .int .i64 q, .int .i64 lo, .int .i64 hi] 129)
   have kG := Bk.new wr 129 #[.int .i64 p, .int .i64 q, .int .i64 lo, .int .i64 hi]
   obtain ⟨fn, tmps, assign, body, hy, hR⟩ := HY.out _ ⟨_, m1⟩ _ hJ2 (by simp; omega)
   rw [t1] at hR
   dsimp only [ibv, bval] at hy
   have HK2 := Lib.hid hK2
   have KG := Lib.hid kG
   have T2 := Lib.hid t2
   clear hJs hK hJ2 hK2 kG t1 t2 kR
   gi_wp2_with (fail)
   refine hR.mono ?_
   clear hR hy
   rintro e W3 (⟨rfl, hJ3, hk3⟩ | ⟨rfl, hx3⟩)
   ·have hK3 := HK2.out.trans hk3
    have kG3 := hk3.bkG KG.out
    have g0 := (kG3.cell 0).trans rfl
    have g1 := (kG3.cell 1).trans rfl
    have g2 := (kG3.cell 2).trans rfl
    have hGl := kG3.lt
    have r3 := (((hK1.trans hK3).bk HW.out.kR h6 h3).cell 0).trans rfl
    have hRl3 := ((hK1.trans hK3).bk HW.out.kR h6 h3).lt
    have hwn : IntKind.i64.wrap (-lo) = -lo := IntWalk.i64_in _ (by omega)
    obtain ⟨fn2, tmps2, assign2, body2, hy2, hR2⟩ := HY.out _ ⟨_, m2⟩ _ hJ3 (by simp; omega)
    rw [T2.out] at hR2
    dsimp only [ibv, bval] at hy2
    have HK3 := Lib.hid hK3
    clear hJ3 hk3 hK3 kG3
    gi_wp2_with (fail)
    refine hR2.mono ?_
    clear hR2 hy2
    rintro e W4 (⟨rfl, hJ4, hk4⟩ | ⟨rfl, hx4⟩)
    ·have HK4 := Lib.hid (HK3.out.trans hk4)
     have HJ4 := Lib.hid hJ4
     clear hk4 hJ4
     gi_wp2_with (fail)
     go_roundw
     case rel => exact ⟨k + 1, by omega, by simp, HJ4.out, HK4.out⟩
     case measure => simp [intOf]; omega
    ·have HX4 := Lib.hid hx4
     clear hx4
     gi_wp2_with (fail)
     refine bodyPost_ret (results_none rfl _ _ _) rfl ?_
     exact ⟨⟨_, rfl⟩, .inr ⟨_, List.take_prefix _ _, HX4.out⟩⟩
   ·have HX3 := Lib.hid hx3
    clear hx3
    gi_wp2_with (fail)
    refine ⟨fun _ h => (by cases h), ?_⟩
    gi_wp2_with (fail)
    refine bodyPost_ret (results_none rfl _ _ _) rfl ?_
    exact ⟨⟨_, rfl⟩, .inr ⟨_, List.take_prefix _ _, HX3.out⟩⟩
  ·obtain rfl : k = (Dd.gapsF f x).length := by omega
   have hbn := Dd.bnds_len f x r
   have HJ5 := Lib.hid hJs
   have HBN := Lib.hid hbn
   clear hJs hbn
   gi_wp2_with (fail)
   go_end0
   exact ⟨⟨_, rfl⟩, .inl ⟨_, by rw [List.take_of_length_le (by simp [HBN.out])], HJ5.out⟩⟩
theorem bounds_stops (n : Nat) (hn : 1 ≤ n) (Bf Bc Br M B : Nat) (X : Nat → Prop) (v : Fv) (f : Dd.Fd) (x : Dd.Ca) (r : Int) (he : Dd.callE f x = 0)
  (hX : ∀ j, X j → B ≤ j ∧ j < M) (h1 : ¬ X Bf) (h2 : ¬ X Bc) (h3 : ¬ X Br) (hB : B ≤ M) (hg : 5 < B) (h4 : Bf < M) (h5 : Bc < M) (h6 : Br < M) (w : World) (hM : M ≤ w.heap.size) (hW : Yc B Bf Bc Br v f x r w) :
  SeqStopsK Fence.wide n Tryz.prog 71 #[.pointer (some ⟨Bf, 0, none⟩), .pointer (some ⟨Bc, 0, none⟩), .pointer (some ⟨Br, 0, none⟩)] (fun b : Dd.Ib f x r => ibv b) (Kc M X) (fun ys => ys = (Dd.bnds f x r).attach) (fun pre => pre <+: (Dd.bnds f x r).attach) (Dd.bnds f x r).length w :=
 fun l J Jx W hb hJ _ hY h0 => bounds1_in n hn l Bf Bc Br M B X v f x r he hX h1 h2 h3 hB hg h4 h5 h6 J Jx W (Nat.le_trans hM hb.size) hJ hY (hW.below hb (by omega) (by omega) (by omega) (by omega) (by omega)) h0
end Go.Proofs.YtcbeefbefapicaaGreatDoor
