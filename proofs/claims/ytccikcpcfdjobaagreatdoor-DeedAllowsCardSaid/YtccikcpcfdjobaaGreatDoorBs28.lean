/-
  What the claim needs: contracts.
-/
import Derived.MapKept
import Derived.Great.BuildSlice
import Derived.Great.FillDense
import Derived.Test.YtccikcpcfdjobaaGreatDoorBs27
import Derived.Test.YtccikcpcfdjobaaGreatDoorBs25
import Derived.Test.YtccikcpcfdjobaaGreatDoorBs22
set_option linter.unusedVariables false
set_option linter.unusedSimpArgs false
set_option maxHeartbeats 8000000
set_option maxRecDepth 100000
namespace Go.Proofs.YtccikcpcfdjobaaGreatDoor
section
open Go.RowKit
theorem y1U {P : Program} {w : World} {kt : TypeId} (hk : P.underlying kt = some .string) (e : Bool) (s : ByteArray) : (Instr.checkKey e 10000 kt (.string s)).run P w = .ok () w :=
 MapKept.run_checkKey hk (by trivial) e 9999
theorem y1r {P : Program} {w : World} {kt : TypeId} (hk : P.underlying kt = some .string) (s : ByteArray) (es : List MapEntry) (r : Option (Nat × Value)) (h : Instr.findNow .string (.string s) es 0 = some r) : (Instr.findKey kt (.string s) es).run P w = .ok r w := by
 simp [Instr.findKey, run_underlying hk, h, Result.andThen]
theorem y7N {P : Program} {w : World} {t kt et : TypeId} {b : Nat} {es : Array MapEntry} {c : Nat} (ht : P.underlying t = some (.map kt et)) (hk : P.underlying kt = some .string) (hb : w.heap[b]? = some (.map es c)) (s : ByteArray) (v : Value)
  (h : Instr.findNow .string (.string s) es.toList 0 = some none) : (Instr.mapUpdate t (.map (some b)) (.string s) v).run P w = .ok () (w.putObj b (.map (es.push ⟨.string s, v, c⟩) (c + 1))) := by
 simp [Instr.mapUpdate, run_underlying ht, MapKept.run_getObj_map hb, y1U hk, y1r hk _ _ _ h, MapKept.run_setObj_map _ hb, Result.andThen, World.putObj]
theorem y2m {P : Program} {w : World} {t kt et : TypeId} {b : Nat} {es : Array MapEntry} {c : Nat} (ht : P.underlying t = some (.map kt et)) (hk : P.underlying kt = some .string) (hb : w.heap[b]? = some (.map es c)) (s : ByteArray) (i : Nat) (v : Value)
  (h : Instr.findNow .string (.string s) es.toList 0 = some (some (i, v))) : (Instr.lookup t (.map (some b)) (.string s) true).run P w = .ok (.tuple #[v, .bool true]) w := by
 simp [Instr.lookup, run_underlying ht, MapKept.run_getObj_map hb, y1U hk, y1r hk _ _ _ h, Result.andThen]
theorem y2n {P : Program} {w : World} {t kt et : TypeId} {b : Nat} {es : Array MapEntry} {c : Nat} (ht : P.underlying t = some (.map kt et)) (hk : P.underlying kt = some .string) (hb : w.heap[b]? = some (.map es c)) (s : ByteArray) (z : Value) (hz : (zeroValue et).run P w = .ok z w)
  (h : Instr.findNow .string (.string s) es.toList 0 = some none) : (Instr.lookup t (.map (some b)) (.string s) true).run P w = .ok (.tuple #[z, .bool false]) w := by
 simp [Instr.lookup, run_underlying ht, MapKept.run_getObj_map hb, y1U hk, y1r hk _ _ _ h, hz, Result.andThen]
theorem y1H {P : Program} {ops : Array Oper} {rest : List Oper} {o : Oper} {a : Act} {w : World} {Q : Exit -> Act -> World -> Prop} (hgd : o.guard = none) (t : TypeId) (m k x : Operand) (ho : o.op = .insert t m k x)
  (b : Nat) (hm : a.eval m = .map (some b)) (s : ByteArray) (hk : a.eval k = .string s) (v : Value) (hv : a.eval x = v) (kt et : TypeId) (ht : P.underlying t = some (.map kt et)) (hkt : P.underlying kt = some .string)
  (es : Array MapEntry) (c : Nat) (hb : w.heap[b]? = some (.map es c)) (hn : Instr.findNow .string (.string s) es.toList 0 = some none)
  (h : wpList P ops Q rest (a.put o.dst undef) (w.putObj b (.map (es.push ⟨.string s, v, c⟩) (c + 1)))) : wpList P ops Q (o :: rest) a w := by
 refine wpList_plain hgd fun K hK => ?_;unfold Oper.wp;simp only [execOp, ho, hm, hk, hv, y7N ht hkt hb s v hn, Sem.run_bind, Sem.run_pure, Result.andThen_ok];exact hK _ _ h
theorem y07 {w : World} {b : Nat} {o p : Obj} (h : w.heap[b]? = some p) : (w.putObj b o).heap[b]? = some o := World.putObj_heap_same (Array.getElem?_eq_some_iff.1 h).1
theorem Below.putNew {B : Nat} {a w : World} (h : Below B a w) {b : Nat} (hb : B <= b) (o : Obj) : Below B a (w.putObj b o) :=
 h.trans ⟨rfl, rfl, rfl, by simp [World.putObj], fun k hk => World.putObj_heap_other (by omega)⟩
theorem y54 {a b : Cs.Bs} (h : ¬ a = b) : ((⟨a.toArray⟩ : ByteArray) == ⟨b.toArray⟩) = false := by
 rw [beq_toListBytes];simp [h]
def fes : Array MapEntry := #[⟨.string ⟨Dd.kStation.toArray⟩, .func (.func 144) #[] #[], 0⟩, ⟨.string ⟨Dd.kLimit.toArray⟩, .func (.func 145) #[] #[], 1⟩,
 ⟨.string ⟨Dd.kParcel.toArray⟩, .func (.func 146) #[] #[], 2⟩, ⟨.string ⟨Dd.kVariation.toArray⟩, .func (.func 147) #[] #[], 3⟩]
def ces : Array MapEntry := #[⟨.string ⟨Dd.kStone.toArray⟩, .func (.func 198) #[] #[], 0⟩, ⟨.string ⟨Dd.kWidth.toArray⟩, .func (.func 199) #[] #[], 1⟩, ⟨.string ⟨Dd.kCourse.toArray⟩, .func (.func 200) #[] #[], 2⟩,
 ⟨.string ⟨Dd.kAlong.toArray⟩, .func (.func 201) #[] #[], 3⟩, ⟨.string ⟨Dd.kLevel.toArray⟩, .func (.func 202) #[] #[], 4⟩]
def ftab (k : Cs.Bs) : Option Nat := if k = Dd.kStation then some 144 else if k = Dd.kLimit then some 145 else if k = Dd.kParcel then some 146 else if k = Dd.kVariation then some 147 else none
def ctab (k : Cs.Bs) : Option Nat := if k = Dd.kStone then some 198 else if k = Dd.kWidth then some 199 else if k = Dd.kCourse then some 200 else if k = Dd.kAlong then some 201 else if k = Dd.kLevel then some 202 else none
theorem y43 (w : World) : Calls Tryz.prog 94 #[] w fun e w' => ∃ b, w.heap.size <= b /\ e = .returned (.map (some b)) /\ w'.heap[b]? = some (.map fes 4) /\ Below w.heap.size w w' := by
 have hmk := fun t (w : World) => run_makeMap (P := Tryz.prog) t w;have h0 : (w.alloc (.map #[] 0)).heap[w.heap.size]? = some (.map #[] 0) := World.alloc_heap_new _ _;go_enter Tryz.func94, Tryz.ntmps94;go_wp2_with (refine y1H rfl 118 (.tmp 1) _ _ rfl w.heap.size rfl _ rfl _ rfl _ _ Tryz.underlying118 Tryz.underlying9 _ _ (by with_reducible first | exact h0 | exact y07 (h0) | exact y07 (y07 (h0)) | exact y07 (y07 (y07 (h0)))) (by kernel_rfl) ?_);go_ret;exact ⟨w.heap.size, Nat.le_refl _, rfl, y07 (y07 (y07 (y07 (h0)))), (Below.putNew (Below.putNew (Below.putNew (Below.putNew ((Below.refl w.heap.size w).alloc (Nat.le_refl _) (.map #[] 0)) (Nat.le_refl _) _) (Nat.le_refl _) _) (Nat.le_refl _) _) (Nat.le_refl _) _)⟩
theorem y4i (w : World) : Calls Tryz.prog 155 #[] w fun e w' => ∃ b, w.heap.size <= b /\ e = .returned (.map (some b)) /\ w'.heap[b]? = some (.map ces 5) /\ Below w.heap.size w w' := by
 have hmk := fun t (w : World) => run_makeMap (P := Tryz.prog) t w;have h0 : (w.alloc (.map #[] 0)).heap[w.heap.size]? = some (.map #[] 0) := World.alloc_heap_new _ _;go_enter Tryz.func155, Tryz.ntmps155;go_wp2_with (refine y1H rfl 185 (.tmp 1) _ _ rfl w.heap.size rfl _ rfl _ rfl _ _ Tryz.underlying185 Tryz.underlying9 _ _ (by with_reducible first | exact h0 | exact y07 (h0) | exact y07 (y07 (h0)) | exact y07 (y07 (y07 (h0))) | exact y07 (y07 (y07 (y07 (h0))))) (by kernel_rfl) ?_);go_ret;exact ⟨w.heap.size, Nat.le_refl _, rfl, y07 (y07 (y07 (y07 (y07 (h0))))), (Below.putNew (Below.putNew (Below.putNew (Below.putNew (Below.putNew ((Below.refl w.heap.size w).alloc (Nat.le_refl _) (.map #[] 0)) (Nat.le_refl _) _) (Nat.le_refl _) _) (Nat.le_refl _) _) (Nat.le_refl _) _) (Nat.le_refl _) _)⟩
def tabW (tab : Cs.Bs -> Option Nat) : List Cs.Bs -> Option (Nat × List Cs.Bs)
 | [] => none
 | k :: r => match tab k with | some n => some (n, r) | none => none
def fnv : Nat -> Value := fun n => .func (.func n) #[] #[]
theorem yD4 (k : Cs.Bs) : (∃ i n, ftab k = some n /\ Instr.findNow .string (.string ⟨k.toArray⟩) fes.toList 0 = some (some (i, .func (.func n) #[] #[]))) ∨ (ftab k = none /\ Instr.findNow .string (.string ⟨k.toArray⟩) fes.toList 0 = some none) := by
 unfold ftab;by_cases h0 : k = Dd.kStation
 ·subst h0; exact .inl ⟨0, _, rfl, by kernel_rfl⟩
 by_cases h1 : k = Dd.kLimit
 ·subst h1; exact .inl ⟨1, _, rfl, by kernel_rfl⟩
 by_cases h2 : k = Dd.kParcel
 ·subst h2; exact .inl ⟨2, _, rfl, by kernel_rfl⟩
 by_cases h3 : k = Dd.kVariation
 ·subst h3; exact .inl ⟨3, _, rfl, by kernel_rfl⟩
 right;refine ⟨by simp [h0, h1, h2, h3], ?_⟩;simp [fes, Instr.findNow, Instr.sameNow, h0, h1, h2, h3, y54 h0, y54 h1, y54 h2, y54 h3]
theorem yD2 (k : Cs.Bs) : (∃ i n, ctab k = some n /\ Instr.findNow .string (.string ⟨k.toArray⟩) ces.toList 0 = some (some (i, .func (.func n) #[] #[]))) ∨ (ctab k = none /\ Instr.findNow .string (.string ⟨k.toArray⟩) ces.toList 0 = some none) := by
 unfold ctab;by_cases h0 : k = Dd.kStone
 ·subst h0; exact .inl ⟨0, _, rfl, by kernel_rfl⟩
 by_cases h1 : k = Dd.kWidth
 ·subst h1; exact .inl ⟨1, _, rfl, by kernel_rfl⟩
 by_cases h2 : k = Dd.kCourse
 ·subst h2; exact .inl ⟨2, _, rfl, by kernel_rfl⟩
 by_cases h3 : k = Dd.kAlong
 ·subst h3; exact .inl ⟨3, _, rfl, by kernel_rfl⟩
 by_cases h4 : k = Dd.kLevel
 ·subst h4; exact .inl ⟨4, _, rfl, by kernel_rfl⟩
 right;refine ⟨by simp [h0, h1, h2, h3, h4], ?_⟩;simp [ces, Instr.findNow, Instr.sameNow, h0, h1, h2, h3, h4, y54 h0, y54 h1, y54 h2, y54 h3, y54 h4]
theorem y6y (mb b : Nat) (l : List Cs.Bs) (W : World) (hm : W.heap[mb]? = some (.map fes 4)) (hne : mb ≠ b) (h : Wz W b l) :
  Calls Tryz.prog 97 #[.map (some mb), .pointer (some ⟨b, 0, none⟩)] W (Wo b W fnv (tabW ftab l)) := by
 have hlm := (Array.getElem?_eq_some_iff.1 hm).1;rcases l with _ | ⟨k, r⟩
 ·have H0 := jQ (y1Q b [] W h);clear h hm;go_enter Tryz.func97, Tryz.ntmps97;go_wp2_with fail;refine H0.o.mono ?_;intro e w1 he;obtain ⟨rfl, hb⟩ := he.none_ rfl;clear he;go_wp2_with fail;exact ⟨rfl, Wo.no rfl hb⟩
 have H0 := jQ (y1Q b (k :: r) W h);rcases yD4 k with ⟨i, n, ht, hf⟩ | ⟨ht, hf⟩
 ·have HL := jQ (fun (W1 : World) (hb : But (fun x => x = b) W W1) => y2m (P := Tryz.prog) (t := 118) Tryz.underlying118 Tryz.underlying9 ((hb.block mb hlm hne).trans hm) ⟨k.toArray⟩ i _ hf);have HW := jQ (show tabW ftab (k :: r) = some (n, r) by simp [tabW, ht]);have N0 := jQ (y0L 4);clear h hm ht hf;go_enter Tryz.func97, Tryz.ntmps97;go_wp2_with fail;refine H0.o.mono ?_;intro e w1 he;obtain ⟨rfl, hb, hz⟩ := he.some_ rfl;have hlk := HL.o _ hb;have HB := jQ hb;have HZ := jQ hz;clear he hb hz;simp only [y06];go_wp2_with fail;refine (N0.o _).mono ?_;rintro e w3 ⟨rfl, hb3⟩;have HB3 := jQ hb3;clear hb3;go_wp2_with fail;go_ret;exact Wo.yes (val := fnv) HW.o (HB.o.trans (But.of HB3.o)) (HZ.o.below HB3.o)
 have HL := jQ (fun (W1 : World) (hb : But (fun x => x = b) W W1) => y2n (P := Tryz.prog) (t := 118) Tryz.underlying118 Tryz.underlying9 ((hb.block mb hlm hne).trans hm) ⟨k.toArray⟩ _ (Tryz.zeroValue122 _) hf);have HW := jQ (show tabW ftab (k :: r) = none by simp [tabW, ht]);have N0 := jQ (y0U 4);clear h hm ht hf;go_enter Tryz.func97, Tryz.ntmps97;go_wp2_with fail;refine H0.o.mono ?_;intro e w1 he;obtain ⟨rfl, hb, hz⟩ := he.some_ rfl;have hlk := HL.o _ hb;have HB := jQ hb;clear he hb hz;simp only [y06];go_wp2_with fail;refine (N0.o _).mono ?_;rintro e w3 ⟨rfl, hb3⟩;go_wp2_with fail;exact ⟨rfl, Wo.no HW.o (HB.o.trans (But.of hb3))⟩
theorem y6o (mb b : Nat) (l : List Cs.Bs) (W : World) (hm : W.heap[mb]? = some (.map ces 5)) (hne : mb ≠ b) (h : Wz W b l) :
  Calls Tryz.prog 154 #[.map (some mb), .pointer (some ⟨b, 0, none⟩)] W (Wo b W fnv (tabW ctab l)) := by
 have hlm := (Array.getElem?_eq_some_iff.1 hm).1;rcases l with _ | ⟨k, r⟩
 ·have H0 := jQ (y1Q b [] W h);clear h hm;go_enter Tryz.func154, Tryz.ntmps154;go_wp2_with fail;refine H0.o.mono ?_;intro e w1 he;obtain ⟨rfl, hb⟩ := he.none_ rfl;clear he;go_wp2_with fail;exact ⟨rfl, Wo.no rfl hb⟩
 have H0 := jQ (y1Q b (k :: r) W h);rcases yD2 k with ⟨i, n, ht, hf⟩ | ⟨ht, hf⟩
 ·have HL := jQ (fun (W1 : World) (hb : But (fun x => x = b) W W1) => y2m (P := Tryz.prog) (t := 185) Tryz.underlying185 Tryz.underlying9 ((hb.block mb hlm hne).trans hm) ⟨k.toArray⟩ i _ hf);have HW := jQ (show tabW ctab (k :: r) = some (n, r) by simp [tabW, ht]);have N0 := jQ (y0L 4);clear h hm ht hf;go_enter Tryz.func154, Tryz.ntmps154;go_wp2_with fail;refine H0.o.mono ?_;intro e w1 he;obtain ⟨rfl, hb, hz⟩ := he.some_ rfl;have hlk := HL.o _ hb;have HB := jQ hb;have HZ := jQ hz;clear he hb hz;simp only [y06];go_wp2_with fail;refine (N0.o _).mono ?_;rintro e w3 ⟨rfl, hb3⟩;have HB3 := jQ hb3;clear hb3;go_wp2_with fail;go_ret;exact Wo.yes (val := fnv) HW.o (HB.o.trans (But.of HB3.o)) (HZ.o.below HB3.o)
 have HL := jQ (fun (W1 : World) (hb : But (fun x => x = b) W W1) => y2n (P := Tryz.prog) (t := 185) Tryz.underlying185 Tryz.underlying9 ((hb.block mb hlm hne).trans hm) ⟨k.toArray⟩ _ (Tryz.zeroValue131 _) hf);have HW := jQ (show tabW ctab (k :: r) = none by simp [tabW, ht]);have N0 := jQ (y0U 4);clear h hm ht hf;go_enter Tryz.func154, Tryz.ntmps154;go_wp2_with fail;refine H0.o.mono ?_;intro e w1 he;obtain ⟨rfl, hb, hz⟩ := he.some_ rfl;have hlk := HL.o _ hb;have HB := jQ hb;clear he hb hz;simp only [y06];go_wp2_with fail;refine (N0.o _).mono ?_;rintro e w3 ⟨rfl, hb3⟩;go_wp2_with fail;exact ⟨rfl, Wo.no HW.o (HB.o.trans (But.of hb3))⟩
theorem Dd.y1N (f : Dd.Fd) (c : Dd.Ca) : ∀ (n : Nat) (s : Int), Dd.gapAlong f c (n + 1) s = Dd.gapAlong f c n s ++ [(Dd.pt f c.l (s + n), Dd.pt f c.o (s + n), 0, 0)]
  | 0, s => by simp [Dd.gapAlong]
  | n + 1, s => by
    rw [Dd.gapAlong, Dd.y1N f c n (s + 1), Dd.gapAlong, List.cons_append, show s + 1 + (n : Int) = s + ((n + 1 : Nat) : Int) by omega]
theorem Dd.y1g (f : Dd.Fd) (c : Dd.Ca) : ∀ (n : Nat) (s : Int), (Dd.gapAlong f c n s).length = n
 | 0, _ => rfl
 | n + 1, s => by rw [Dd.gapAlong, List.length_cons, Dd.y1g f c n]
theorem Ck.next2 {w W W' : World} {v : Fv} {f : Dd.Fd} {x : Dd.Ca} (h : Ck w v f x W) (hS : Sn w) (hb : Below (w.heap.size + 1 + 1) W W') : Ck w v f x W' :=
 ⟨⟨h.fs.b.trans (hb.mono (by omega)), h.fs.k.below hb (by omega), h.fs.r.below hb (by omega)⟩, h.kC.below hb (by omega), hS.step (h.fs.b.trans (hb.mono (by omega)))⟩
theorem yCt {w : World} {base e size n m c : Nat} {A : Option Addr} {xs : List Value} (h : w.ownsRow base e size (.slice A n c) m xs) : ∀ a, A = some a -> ∃ cs, w.heap[a.block]? = some (.cells cs e (0, 0)) := fun a ha => by
 rcases h.2 with ⟨h1, _⟩ | ⟨g, cap, cur, h1, _, hg, _⟩
 ·cases h1; cases ha
 cases h1; cases ha; exact ⟨cur, hg⟩
theorem y9p (g : Gp) : ∀ u ∈ gcells [g], u.oneCell' = true := by
 intro u hu;rw [y4P] at hu;simp only [gcell, List.mem_cons, List.not_mem_nil, or_false] at hu;obtain rfl | rfl | rfl | rfl := hu <;> rfl
set_option maxHeartbeats 16000000 in
theorem y8c (v : Fv) (f : Dd.Fd) (k l o a b s e cb cn cl cy cw cs : Int) (w : World) (hF : FRd w w.heap.size v f) (hS : Sn w) (hg : Rg f ⟨k, l, o, a, b, s, e, cb, cn, cl, cy, cw, cs⟩) (n1 : ¬ k = 1) (n2 : ¬ k = 2) (n3 : ¬ k = 3) (n5 : ¬ k = 5) :
  Calls Tryz.prog 109 #[fval v f, caval ⟨k, l, o, a, b, s, e, cb, cn, cl, cy, cw, cs⟩] w fun ee w' => ∃ A c, ee = .returned (.slice A (Dd.gapsF f ⟨k, l, o, a, b, s, e, cb, cn, cl, cy, cw, cs⟩).length c) /\ Rd w' w'.heap.size 4 A (Dd.gapsF f ⟨k, l, o, a, b, s, e, cb, cn, cl, cy, cw, cs⟩).length (gcells (Dd.gapsF f ⟨k, l, o, a, b, s, e, cb, cn, cl, cy, cw, cs⟩)) /\ Below w.heap.size w w' /\ ∀ a, A = some a -> ∃ cs, w'.heap[a.block]? = some (.cells cs 143 (0, 0)) := by
 have hd : Dd.gapsF f ⟨k, l, o, a, b, s, e, cb, cn, cl, cy, cw, cs⟩ = Dd.gapAlong f ⟨k, l, o, a, b, s, e, cb, cn, cl, cy, cw, cs⟩ (b - a + 1).toNat a := by
  unfold Dd.gapsF;rw [if_neg n1, if_neg n2, if_neg n3, if_neg n5]
 rw [hd];obtain ⟨z0, z1, z2, z3, z4, z5, z6, z7⟩ := hg;dsimp only at z2 z3 z4 z5 z6 z7;have g1 : (k == 1) = false := by simpa using n1
 have g2 : (k == 2) = false := by simpa using n2
 have g3 : (k == 3) = false := by simpa using n3
 have g5 : (k == 5) = false := by simpa using n5
 obtain ⟨i0, hi0, hz0, hz1, hz2⟩ := info_parts yCm;have B0 := jQ (fun W => y0f v f l a z1 z2.1 z2.2 z4.1 (by omega) W);have B1 := jQ (fun (l s : Int) (h0 : 0 <= l) (h1 : l <= 1000000) (h2 : 0 <= s) (h3 : s <= 1000000) W => y0f v f l s z1 h0 h1 h2 h3 W);have S0 := jQ (Ck.new (x := ⟨k, l, o, a, b, s, e, cb, cn, cl, cy, cw, cs⟩) hF hS);have T0 := jQ (fun V (h : Ck w v f ⟨k, l, o, a, b, s, e, cb, cn, cl, cy, cw, cs⟩ V) => Ck.tree h);have N2 := jQ (fun W W' (h : Ck w v f ⟨k, l, o, a, b, s, e, cb, cn, cl, cy, cw, cs⟩ W) (hb : Below (w.heap.size + 1 + 1) W W') => h.next2 hS hb);obtain ⟨G, hG⟩ : ∃ G : Nat -> List Gp, ∀ n, Dd.gapAlong f ⟨k, l, o, a, b, s, e, cb, cn, cl, cy, cw, cs⟩ n a = G n := ⟨fun n => Dd.gapAlong f ⟨k, l, o, a, b, s, e, cb, cn, cl, cy, cw, cs⟩ n a, fun _ => rfl⟩;have G0 : G 0 = [] := by rw [<- hG]; rfl
 have GS := jQ (fun n => show G (n + 1) = G n ++ [(Dd.pt f l (a + n), Dd.pt f o (a + n), 0, 0)] by rw [<- hG, <- hG, Dd.y1N]);have GL := jQ (fun n => show (G n).length = n by rw [<- hG, Dd.y1g]);obtain ⟨M, hM⟩ : ∃ M : Nat, (b - a + 1).toNat = M := ⟨_, rfl⟩;rw [hG, hM];have zb : b < 1000000 := by omega
 simp only [y01, y03] at B0 B1 S0 T0 ⊢;clear hF hS z0 z6 z7 hd hG n1 n2 n3 n5;obtain ⟨⟨⟨⟨f0, f1⟩, f2, f3⟩, ⟨⟨c0, c1⟩, c2, c3⟩⟩, ⟨⟨⟨c4, c5⟩, c6, c7⟩, ⟨⟨c8, c9⟩, c10, c11, c12⟩⟩⟩ := T0.o _ S0.o;go_enter Tryz.func109, Tryz.ntmps109;go_wp2_with fail;refine (B0.o _).mono ?_;rintro ee w1 ⟨rfl, hb1⟩;have S1 := jQ (S0.o.next hb1);clear hb1 f0 f1 f2 f3 c0 c1 c2 c3 c4 c5 c6 c7 c8 c9 c10 c11 c12 S0 B0;obtain ⟨⟨⟨⟨f0, f1⟩, f2, f3⟩, ⟨⟨c0, c1⟩, c2, c3⟩⟩, ⟨⟨⟨c4, c5⟩, c6, c7⟩, ⟨⟨c8, c9⟩, c10, c11, c12⟩⟩⟩ := T0.o _ S1.o;go_wp2_with fail;clear f0 f1 f2 f3 c0 c1 c2 c3 c4 c5 c6 c7 c8 c9 c10 c11 c12;go_loopw [10, 11] (fun V I wr => ∃ j : Nat, j <= M /\ I = .int .i64 (a + j) /\ wr.ownsRow (w.heap.size + 1 + 1) 143 4 V j (gcells (G j)) /\ Ck w v f ⟨k, l, o, a, b, s, e, cb, cn, cl, cy, cw, cs⟩ wr) (fun _ I _ => M - (intOf I - a).toNat)
 case atStart => exact ⟨0, Nat.zero_le _, (by simp), (by rw [G0]; exact World.ownsRow_nil _ _ _ _), S1.o⟩
 clear S1;obtain ⟨j, hj, rfl, hown, hS⟩ := hrel;have HO := jQ hown;have HS := jQ hS;have HKL := jQ hS.kC.lt;clear hown hS;obtain ⟨⟨⟨⟨f0, f1⟩, f2, f3⟩, ⟨⟨c0, c1⟩, c2, c3⟩⟩, ⟨⟨⟨c4, c5⟩, c6, c7⟩, ⟨⟨c8, c9⟩, c10, c11, c12⟩⟩⟩ := T0.o _ HS.o;by_cases hlt : j < M
 ·have hle : decide (a + (j : Int) <= b) = true := decide_eq_true (by omega);have hwl : IntKind.i64.wrap (a + (j : Int) + 1) = a + (j : Int) + 1 := IntWalk.i64_in _ (by omega);go_wp2_with fail;obtain ⟨X, hX⟩ := zE (gcells (G j));have hO := HO.o;rw [hX] at hO;have HO1 := jQ hO;have HX := jQ hX;have hjm : j <= 1000000 := by omega
  have hbD : Below wr.heap.size wr wr.drew := (Below.refl _ _).drew;have hp0 : 0 <= a + (j : Int) := by omega
  have hp1 : a + (j : Int) <= 1000000 := by omega
  clear hO hX HO;go_region_held3 (fun V => ((((V.cell? ⟨w.heap.size, 0, none⟩ = some (.slice v.a1 f.st.length v.c1) /\ V.cell? ⟨w.heap.size, 1, none⟩ = some (.slice v.a2 f.li.length v.c2)) /\ (V.cell? ⟨w.heap.size, 2, none⟩ = some (.slice v.a3 f.pa.length v.c3) /\ V.cell? ⟨w.heap.size, 3, none⟩ = some (.slice v.a4 f.va.length v.c4))) /\ ((V.cell? ⟨w.heap.size + 1, 0, none⟩ = some (.int .u8 k) /\ V.cell? ⟨w.heap.size + 1, 1, none⟩ = some (.int .i64 l)) /\ (V.cell? ⟨w.heap.size + 1, 2, none⟩ = some (.int .i64 o) /\ V.cell? ⟨w.heap.size + 1, 3, none⟩ = some (.int .i64 a)))) /\ (((V.cell? ⟨w.heap.size + 1, 4, none⟩ = some (.int .i64 b) /\ V.cell? ⟨w.heap.size + 1, 5, none⟩ = some (.int .i64 s)) /\ (V.cell? ⟨w.heap.size + 1, 6, none⟩ = some (.int .i64 e) /\ V.cell? ⟨w.heap.size + 1, 7, none⟩ = some (.int .i64 cb))) /\ ((V.cell? ⟨w.heap.size + 1, 8, none⟩ = some (.int .i64 cn) /\ V.cell? ⟨w.heap.size + 1, 9, none⟩ = some (.int .i64 cl)) /\ (V.cell? ⟨w.heap.size + 1, 10, none⟩ = some (.int .i64 cy) /\ (V.cell? ⟨w.heap.size + 1, 11, none⟩ = some (.int .i64 cw) /\ V.cell? ⟨w.heap.size + 1, 12, none⟩ = some (.int .i64 cs)))))))
   (first
    | ((try dsimp only); first | (with_reducible exact T0.o _ sH) | (with_reducible exact T0.o _ sG) | (with_reducible exact T0.o _ sF) | (with_reducible exact T0.o _ sE))
    | go_keep)
   (first
    | (go_at_call 45; refine (B1.o _ _ (by omega) (by omega) (by omega) (by omega) _).mono ?_; first | (rintro ee w3 ⟨rfl, hb3⟩; have hbF : Below wr.heap.size wr w3 := hbE.trans (hb3.mono hbE.size); have sF : Ck w v f ⟨k, l, o, a, b, s, e, cb, cn, cl, cy, cw, cs⟩ w3 := sE.next hb3; have hown3 := jQ ((y1E HO1.o hbF).alloc (.cells #[.int .i64 (Dd.pt f l (a + (j : Int))), .int .i64 (Dd.pt f o (a + (j : Int))), .int .i64 0, .int .i64 0] 143)); have hrd3 := jQ (y6M w3 143 (Dd.pt f l (a + (j : Int))) (Dd.pt f o (a + (j : Int))) 0 0); have sG : Ck w v f ⟨k, l, o, a, b, s, e, cb, cn, cl, cy, cw, cs⟩ (w3.alloc (.cells #[.int .i64 (Dd.pt f l (a + (j : Int))), .int .i64 (Dd.pt f o (a + (j : Int))), .int .i64 0, .int .i64 0] 143)) := sF.next ((Below.refl _ _).alloc (Nat.le_refl _) _)) | (rintro ee w2 ⟨rfl, hb2⟩; have hbE : Below wr.heap.size wr w2 := hbD.trans (hb2.mono hbD.size); have sE : Ck w v f ⟨k, l, o, a, b, s, e, cb, cn, cl, cy, cw, cs⟩ w2 := HS.o.next hbE))
    | (refine y1B rfl (.tmp 79) (.tmp 91) 140 rfl (w.heap.size + 1 + 1) 143 i0 _ 4 32 Tryz.underlying140 hi0 hz0 hz1 hz2 rfl (by omega) u10 j X (by rfl) hown3.o (some ⟨w3.heap.size, 0, none⟩) 1 1 _ _ (by rfl) hrd3.o (y9p _) (by unfold maxLen; omega) (by omega) (Nat.le_trans HKL.o (Nat.le_trans hbF.size (by simp))) ?_; intro v4 W4 hown4 hg4 hat4; have hb4 : Below (w.heap.size + 1 + 1) wr W4 := y0j ((hbF.mono HKL.o).alloc (Nat.le_trans HKL.o hbF.size) _) (Nat.le_refl _) hg4 (fun r e => (hown3.o.lt r e).1) (Nat.le_trans HKL.o (Nat.le_trans hbF.size (by simp))); have sH := N2.o _ _ HS.o hb4))
  all_goals
   have HS4 := jQ sH;have HO4 := jQ hown4;clear f0 f1 f2 f3 c0 c1 c2 c3 c4 c5 c6 c7 c8 c9 c10 c11 c12 sE sF sG sH hb4 hown4 hg4 hat4 hb2 hb3 hbE hbF hrd3 hown3;go_wp2_with fail;refine ⟨⟨j + 1, by omega, ?_, ?_, HS4.o⟩, ?_⟩
   ·rw [show a + ((j + 1 : Nat) : Int) = a + (j : Int) + 1 by omega]
   ·rw [GS.o, y4v, HX.o];exact HO4.o
   show M - (a + (j : Int) + 1 - a).toNat < M - (a + (j : Int) - a).toNat;omega
 have hle : decide (a + (j : Int) <= b) = false := decide_eq_false (by omega);have hje : j = M := by omega
 subst hje;have hO := HO.o;obtain ⟨A', c', rfl, hrd, hfar⟩ := y0e hO (by rw [y4w, GL.o]);have HR := jQ hrd;have HFR := jQ (yCt hO);clear hO hrd hfar HO f0 f1 f2 f3 c0 c1 c2 c3 c5 c6 c7 c8 c9 c10 c11 c12;go_wp2_with fail;go_ret;exact ⟨A', c', by rw [GL.o]; rfl, by rw [GL.o]; exact HR.o, HS.o.fs.b, HFR.o⟩
theorem y3c {P : Program} {w : World} {ops : Array Oper} {rest : List Oper} {o : Oper} {a : Act} {Q : Exit -> Act -> World -> Prop} (hg : o.guard = none) (t e : TypeId) (x y : Operand) (ho : o.op = .buildSlice t 2 #[(0, x), (1, y)])
  (n : Nat) (hn : 0 < n) (hn2 : n <= 1000) (ie : TypeInfo) (z : Value) (hu : P.underlying t = some (.slice e)) (hie : P.info? e = some ie) (hz : ie.zero = some z) (hs : ie.size = n) (c d : List Value) (hc : c.length = n) (hd : d.length = n) (hx : a.eval x = .agg c.toArray) (hy : a.eval y = .agg d.toArray)
  (h : wpList P ops Q rest (a.put o.dst (.slice (some ⟨w.heap.size, 0, none⟩) 2 2)) (w.alloc (.cells (c ++ d).toArray e))) : wpList P ops Q (o :: rest) a w := by
 refine Go.wpList_buildSlice hg t e 2 #[(0, x), (1, y)] ho (c ++ d).toArray ie z hu hie hz (by rw [hs]; omega) (by rw [hs]; omega) ?_ h;have h1 : (Value.agg c.toArray).cells.size = n := by show c.toArray.size = n; simpa using hc
 have h2 : (Value.agg d.toArray).cells.size = n := by show d.toArray.size = n; simpa using hd
 have := Go.Great.fill_whole (s := n) hn [Value.agg c.toArray, Value.agg d.toArray] ((Array.range (2 * ie.size)).map (z.cells[· % z.cells.size]!)) (fun v hv => by
  simp only [List.mem_cons, List.not_mem_nil, or_false] at hv;rcases hv with rfl | rfl
  ·exact h1
  exact h2) (by simp [hs])
 simp only [hs] at this ⊢;simp only [List.map_toArray, List.map_cons, List.map_nil, hx, hy];rw [show ([(0, Value.agg c.toArray), (1, Value.agg d.toArray)] : List (Nat × Value)) = (([Value.agg c.toArray, Value.agg d.toArray].zipIdx 0).map fun x => (x.2, x.1)) from rfl, this];simp [Value.cells]
theorem y1o (p q lo hi r : Int) (hlo : -1000000000 <= lo /\ lo <= 1000000000) (w : World) :
  Calls Tryz.prog 114 #[.int .i64 p, .int .i64 q, .int .i64 lo, .int .i64 hi, .int .i64 r] w fun e w' => e = .returned (.slice (some ⟨w.heap.size, 0, none⟩) 2 2) /\
   Bk w' w.heap.size 78 #[.int .i64 p, .int .i64 q, .int .i64 hi, .int .i64 r, .int .i64 q, .int .i64 p, .int .i64 (-lo), .int .i64 r] /\ Below w.heap.size w w' := by
 obtain ⟨i0, hi0, hz0, hz1, hz2⟩ := info_parts yBA;have hw : IntKind.i64.wrap (-lo) = -lo := IntWalk.i64_in _ (by omega);go_enter Tryz.func114, Tryz.ntmps114;go_wp2_with (refine y3c rfl 52 78 (.tmp 15) (.tmp 21) rfl 4 (by omega) (by omega) i0 _ Tryz.underlying52 hi0 hz0 hz1 [.int .i64 p, .int .i64 q, .int .i64 hi, .int .i64 r] [.int .i64 q, .int .i64 p, .int .i64 (-lo), .int .i64 r] rfl rfl rfl rfl ?_);go_ret;exact ⟨rfl, Bk.new _ _ _, (Below.refl _ _).alloc (Nat.le_refl _) _⟩
end

section
open Go.RowKit
namespace Cs
def intM (vs : List (Int × Int)) (c : Co) (dx : Int) : Int × Int × Bool := if (intF vs c dx).2.2 then ((intF vs c dx).1, (intF vs c dx).2.1, true) else (0, 0, false)
theorem yBB {vs : List (Int × Int)} {c : Co} {dx : Int} (h : dx < 0) : intM vs c dx = (-(intN (aimOf vs (turn c)) (-dx)).2.1, -(intN (aimOf vs (turn c)) (-dx)).1, (intN (aimOf vs (turn c)) (-dx)).2.2) := by
 have e : intF vs c dx = (-(intA (aimOf vs (turn c)) (-dx)).2.1, -(intA (aimOf vs (turn c)) (-dx)).1, (intA (aimOf vs (turn c)) (-dx)).2.2) := by
  have e2 : aimEast vs c dx = aimOf vs (turn c) := by rw [aimEast, if_pos h]
  rw [intF, if_neg (by omega : ¬ 0 < dx), e2]
 rw [intM, e, intN];dsimp only;rcases (intA (aimOf vs (turn c)) (-dx)).2.2 with _ | _ <;> simp
theorem yBC {vs : List (Int × Int)} {c : Co} {dx : Int} (h : 0 < dx) : intM vs c dx = intN (aimOf vs c) dx := by
 have e : intF vs c dx = intA (aimOf vs c) dx := by
  have e2 : aimEast vs c dx = aimOf vs c := by rw [aimEast, if_neg (by omega : ¬ dx < 0)]
  rw [intF, if_pos h, e2]
 rw [intM, e, intN]
theorem yA1 {a : Aim} {dx : Int} (ok : AimOk a) (hx : -100000 <= dx /\ dx <= 100000) : (-9223372036854775807 <= (intN a dx).1 /\ (intN a dx).1 <= 9223372036854775807) /\ (-9223372036854775807 <= (intN a dx).2.1 /\ (intN a dx).2.1 <= 9223372036854775807) := by
 rw [intN];split
 ·exact y5q ok hx
 dsimp only; omega
end Cs
theorem yAy (vs : List (Int × Int)) (co : Cs.Co) (dx : Int) (w : World) (hco : Cs.courseOk co = true) (hx : -100000 <= dx /\ dx <= 100000) (hx0 : dx ≠ 0) :
  Calls Tryz.prog 169 #[cval co, .int .i64 (Cs.dec vs co.y).1, .int .i64 dx] w fun e w' => e = .returned (.tuple #[.int .i64 (Cs.intM vs co dx).1, .int .i64 (Cs.intM vs co dx).2.1, .bool (Cs.intM vs co dx).2.2]) /\ Below w.heap.size w w' := by
 have hdr := Cs.y29 vs co.y;obtain ⟨⟨b0, b1⟩, _⟩ := (Cs.y0Q co).1 hco;by_cases hd : dx < 0
 ·have hm := fun w => y2L (Cs.turn co) (Cs.dec vs co.y).1 (-dx) w (Cs.y3a hco) hdr (by omega);rw [Cs.yBB hd];have hr : Cs.intN (Cs.aimOf vs (Cs.turn co)) (-dx) = Cs.intN ⟨Cs.norm ((Cs.turn co).b + (Cs.dec vs co.y).1 + 90) - 90 - (Cs.turn co).n, Cs.norm ((Cs.turn co).b + (Cs.dec vs co.y).1 + 90) - 90 + (Cs.turn co).n, Cs.nearF (Cs.turn co), Cs.farF (Cs.turn co)⟩ (-dx) := rfl;have hwd := Cs.yA1 (a := Cs.aimOf vs (Cs.turn co)) (dx := -dx) (Cs.y4f vs (Cs.y3a hco)) (by omega);rw [hr] at hwd ⊢;obtain ⟨⟨lo, hi, ok⟩, hrr⟩ : ∃ q, Cs.intN ⟨Cs.norm ((Cs.turn co).b + (Cs.dec vs co.y).1 + 90) - 90 - (Cs.turn co).n, Cs.norm ((Cs.turn co).b + (Cs.dec vs co.y).1 + 90) - 90 + (Cs.turn co).n, Cs.nearF (Cs.turn co), Cs.farF (Cs.turn co)⟩ (-dx) = q := ⟨_, rfl⟩;rw [hrr] at hm hwd ⊢;dsimp only at hm hwd ⊢;obtain ⟨⟨i0, i1⟩, i2, i3⟩ := hwd;have htv : cval (Cs.turn co) = .agg #[.int .i64 (Cs.norm (co.b + 180)), .int .i64 co.n, .int .i64 co.l, .int .i64 co.y, .int .i64 co.w, .int .i64 co.s] := rfl;rw [htv] at hm;rw [y0P];have hnm := fun w => y1F (co.b + 180) w;obtain ⟨nb, hnb⟩ := zE (Cs.norm (co.b + 180));rw [hnb] at hm hnm;obtain ⟨e, he⟩ := zE ((Cs.dec vs co.y).1);rw [he] at hm ⊢;have HM := jQ hm;have HNM := jQ hnm;have HB0 := jQ ((Below.refl w.heap.size w).alloc (Nat.le_refl _) (.cells #[.int .i64 nb, .int .i64 co.n, .int .i64 co.l, .int .i64 co.y, .int .i64 co.w, .int .i64 co.s] 46));clear hm hr hrr htv hnm hnb he hdr hco;go_enter Tryz.func169, Tryz.ntmps169;go_wp2_with (go_at_call 121; refine (HNM.o _).mono ?_; rintro e w' ⟨rfl, rfl⟩);refine (HM.o _).mono ?_;rintro e w2 ⟨rfl, hb2⟩;have HB2 := jQ (HB0.o.trans (hb2.mono HB0.o.size));clear hb2;go_wp2_with fail
  go_ret3
  exact ⟨rfl, HB2.o⟩
 have hm := fun w => y2L co (Cs.dec vs co.y).1 dx w hco hdr hx;rw [Cs.yBC (by omega)];have hr : Cs.intN (Cs.aimOf vs co) dx = Cs.intN ⟨Cs.norm (co.b + (Cs.dec vs co.y).1 + 90) - 90 - co.n, Cs.norm (co.b + (Cs.dec vs co.y).1 + 90) - 90 + co.n, Cs.nearF co, Cs.farF co⟩ dx := rfl;rw [hr];obtain ⟨⟨lo, hi, ok⟩, hrr⟩ : ∃ q, Cs.intN ⟨Cs.norm (co.b + (Cs.dec vs co.y).1 + 90) - 90 - co.n, Cs.norm (co.b + (Cs.dec vs co.y).1 + 90) - 90 + co.n, Cs.nearF co, Cs.farF co⟩ dx = q := ⟨_, rfl⟩;rw [hrr] at hm ⊢;rw [y0P] at hm ⊢;dsimp only at hm ⊢;obtain ⟨e, he⟩ := zE ((Cs.dec vs co.y).1);rw [he] at hm ⊢;have HM := jQ hm;have HB0 := jQ ((Below.refl w.heap.size w).alloc (Nat.le_refl _) (.cells #[.int .i64 co.b, .int .i64 co.n, .int .i64 co.l, .int .i64 co.y, .int .i64 co.w, .int .i64 co.s] 46));clear hm hr hrr he hdr hco;go_enter Tryz.func169, Tryz.ntmps169;go_wp2_with fail;refine (HM.o _).mono ?_;rintro e w2 ⟨rfl, hb2⟩;have HB2 := jQ (HB0.o.trans (hb2.mono HB0.o.size));clear hb2;go_wp2_with fail
 go_ret3
 exact ⟨rfl, HB2.o⟩
namespace Cs
theorem y96 {vs : List (Int × Int)} {c : Co} {dx : Int} : stepE vs c dx 0 = eastE vs [c] dx := by
 rw [stepE];split
 ·rfl
 rename_i h;rw [if_neg (by omega)];exact (Decidable.not_not.1 h).symm
theorem yB2 {vs : List (Int × Int)} {c : Co} {dx : Int} (h : eastE vs [c] dx = 0) : comF vs [c] dx = (intM vs c dx, 0) := by
 obtain ⟨h1, h2, h3, h4⟩ := y1t h;rw [comF, if_neg (by simp), if_neg (by simp), if_neg (by rw [h]; simp), yB4 vs (y2S h1) h2 h3 h4];rfl
theorem yB1 {vs : List (Int × Int)} {c : Co} {dx : Int} (h : eastE vs [c] dx ≠ 0) : comF vs [c] dx = ((0, 0, false), eastE vs [c] dx) := by
 rw [comF, if_neg (by simp), if_neg (by simp), if_pos h]
end Cs
theorem y2H (A : Option Addr) (c : Nat) (vs : List (Int × Int)) (co : Cs.Co) (dx : Int) (w : World) (hR : Rd w w.heap.size 2 A vs.length (vcells vs)) (hl : vs.length <= 1000000) :
  Calls Tryz.prog 115 #[.slice A vs.length c, cval co, .int .i64 dx] w fun e w' => e = .returned (.tuple #[.int .i64 (Cs.comF vs [co] dx).1.1, .int .i64 (Cs.comF vs [co] dx).1.2.1, .bool (Cs.comF vs [co] dx).1.2.2, .int .i64 (Cs.comF vs [co] dx).2]) /\ Below w.heap.size w w' := by
 have hop := fun w h => y4Y A c vs co dx 0 w h hl;have hbo := fun w h1 h2 h3 => yAy vs co dx w h1 h2 h3;have hB0 := (Below.refl w.heap.size w).alloc (Nat.le_refl _) (.cells #[.int .i64 co.b, .int .i64 co.n, .int .i64 co.l, .int .i64 co.y, .int .i64 co.w, .int .i64 co.s] 46);have HRD := jQ ((hR.below hB0 (Nat.le_refl _)).more hB0.size);have HB0 := jQ hB0;have KC := jQ (Bk.new w 46 #[.int .i64 co.b, .int .i64 co.n, .int .i64 co.l, .int .i64 co.y, .int .i64 co.w, .int .i64 co.s]);rw [y0P] at hop hbo ⊢;rw [Cs.y96] at hop;clear hB0 hR;by_cases he : Cs.eastE vs [co] dx = 0
 ·obtain ⟨g1, g2, g3, g4⟩ := Cs.y1t he;have g5 := Cs.y2S g1;rw [Cs.yB2 he];rw [if_pos he, he] at hop;obtain ⟨x, hx⟩ := zE ((Cs.dec vs co.y).1);rw [hx] at hop hbo;obtain ⟨⟨lo, hi, ok⟩, hrr⟩ : ∃ q, Cs.intM vs co dx = q := ⟨_, rfl⟩;rw [hrr] at hbo ⊢;dsimp only at hbo ⊢;have HOP := jQ hop;have HBO := jQ fun w => hbo w g5 ⟨g3, g4⟩ g2;clear hop hbo he hx hrr g1 g2 g3 g4 g5;go_enter Tryz.func115, Tryz.ntmps115;go_wp2_with fail;refine (HOP.o _ HRD.o).mono ?_;rintro e w1 ⟨rfl, hb1⟩;have k1 := KC.o.below hb1 (by simp);have HB1 := jQ (HB0.o.trans (hb1.mono HB0.o.size));have p0 := (k1.cell 0).trans rfl;have p1 := (k1.cell 1).trans rfl;have p2 := (k1.cell 2).trans rfl;have p3 := (k1.cell 3).trans rfl;have p4 := (k1.cell 4).trans rfl;have p5 := (k1.cell 5).trans rfl;have lp := k1.lt;clear hb1 k1;go_wp2_with fail;refine (HBO.o _).mono ?_;rintro e w2 ⟨rfl, hb2⟩;have HB2 := jQ (HB1.o.trans (hb2.mono HB1.o.size));clear hb2;go_wp2_with fail;refine bodyPost_ret (y0X rfl _ _ _) rfl ?_;exact ⟨rfl, HB2.o⟩
 rw [Cs.yB1 he];dsimp only;rw [if_neg he] at hop;have hne : (Cs.eastE vs [co] dx != 0) = true := by simp [he]
 obtain ⟨s, hss⟩ := zE (Cs.eastE vs [co] dx);rw [hss] at hop hne ⊢;have HOP := jQ hop;clear hop hbo he hss;go_enter Tryz.func115, Tryz.ntmps115;go_wp2_with fail;refine (HOP.o _ HRD.o).mono ?_;rintro e w1 ⟨rfl, hb1⟩;have HB1 := jQ (HB0.o.trans (hb1.mono HB0.o.size));clear hb1;go_wp2_with fail;refine bodyPost_ret (y0X rfl _ _ _) rfl ?_;exact ⟨rfl, HB1.o⟩
end

section
open Go.RowKit
set_option maxHeartbeats 16000000 in
theorem y48 (v : Fv) (f : Dd.Fd) (x : Dd.Ca) (w : World) (hF : FRd w w.heap.size v f) (h0 : Dd.fieldE f = 0) :
  Calls Tryz.prog 71 #[fval v f, caval x] w fun e w' => e = .returned (.int .i64 (Dd.callG f x)) /\ Below w.heap.size w w' := by
 have hl4 := hF.l4;have hrc : Dd.callG f x = if Dd.rtable f x = false then 1 else if x.k ≠ 3 then 0 else if Cs.courseE x.c ≠ 0 then Cs.courseE x.c
  else if (Cs.comF f.va [x.c] (Dd.run f x)).2 ≠ 0 then (Cs.comF f.va [x.c] (Dd.run f x)).2 else if (Cs.comF f.va [x.c] (Dd.run f x)).1.2.2 then 0 else 5 := (Dd.yAY h0 x).symm.trans rfl
 have C0 := jQ (Cr.new (x := x) hF);have B1 := jQ (fun W (h : Cr w v f x W) => y8x v f x W h.fs.rd);have B2 := jQ (fun W => y1Y x.c W);have B3 := jQ (fun (ha : Dd.isIx x.a f.st.length = true) (hb : Dd.isIx x.b f.st.length = true) W (h : Cr w v f x W) => y5B v f x W h.fs.rd h0 ha hb);have B4 := jQ (fun W (h : Cr w v f x W) => y2H v.a4 v.c4 f.va x.c (Dd.run f x) W h.fs.rd.va hl4);simp only [y01, y03, y0P] at B1 B2 B3 B4 ⊢;obtain ⟨R, hR⟩ := zE (Dd.callG f x);obtain ⟨tb, htb⟩ := zE (Dd.rtable f x);obtain ⟨ce, hce⟩ := zE (Cs.courseE x.c);obtain ⟨rn, hrn⟩ := zE (Dd.run f x);rw [hrn] at hrc B3 B4;obtain ⟨i1, hi1⟩ := zE ((Cs.comF f.va [x.c] rn).1.1);obtain ⟨i2, hi2⟩ := zE ((Cs.comF f.va [x.c] rn).1.2.1);obtain ⟨i3, hi3⟩ := zE ((Cs.comF f.va [x.c] rn).1.2.2);obtain ⟨i4, hi4⟩ := zE ((Cs.comF f.va [x.c] rn).2);rw [hR, htb, hce, hi3, hi4] at hrc;rw [hi1, hi2, hi3, hi4] at B4;rw [hR];rw [htb] at B1;rw [hce] at B2;have HR := jQ hrc;have HTB := jQ htb;clear hF hrc hR htb hce hrn hi1 hi2 hi3 hi4;obtain ⟨f0, f1, f2, f3, fl⟩ := C0.o.fs.cells;obtain ⟨⟨⟨⟨c0, c1, c2⟩, c3, c4, c5⟩, ⟨c6, c7, c8⟩, c9, c10, c11, c12⟩, cl⟩ := y0D C0.o.kC;go_enter Tryz.func71, Tryz.ntmps71;go_wp2_with fail;refine (B1.o _ C0.o).mono ?_;rintro e w1 ⟨rfl, hb⟩;have C1 := jQ (C0.o.next hb);clear hb f0 f1 f2 f3 fl c0 c1 c2 c3 c4 c5 c6 c7 c8 c9 c10 c11 c12 cl C0;obtain ⟨f0, f1, f2, f3, fl⟩ := C1.o.fs.cells;obtain ⟨⟨⟨⟨c0, c1, c2⟩, c3, c4, c5⟩, ⟨c6, c7, c8⟩, c9, c10, c11, c12⟩, cl⟩ := y0D C1.o.kC;rcases tb with _ | _
 ·have HV := jQ (show R = 1 from HR.o);go_wp2_with fail;go_ret;exact ⟨y02 HV.o.symm, C1.o.fs.b⟩
 have HR := jQ (HR.o.trans (if_neg (by decide)));by_cases hk : x.k = 3
 ·have q1 : (x.k != 3) = false := by simpa using hk
  have HR := jQ (HR.o.trans (if_neg (by simpa using hk)));have hab : Dd.isIx x.a f.st.length = true /\ Dd.isIx x.b f.st.length = true := by
   have h9 := HTB.o;unfold Dd.rtable at h9;split at h9
   ·cases h9
   rename_i h8;rw [if_neg (by omega), if_neg (by omega)] at h9;simp only [Bool.not_eq_false, Bool.and_eq_true] at h8 h9;exact ⟨h8.1.2, h9.1.2⟩
  have B3 := jQ (B3.o hab.1 hab.2);clear hk hab;go_wp2_with fail;refine (B2.o _).mono ?_;rintro e w2 ⟨rfl, hb⟩;have C2 := jQ (C1.o.next hb);clear hb f0 f1 f2 f3 fl c0 c1 c2 c3 c4 c5 c6 c7 c8 c9 c10 c11 c12 cl C1;obtain ⟨f0, f1, f2, f3, fl⟩ := C2.o.fs.cells;obtain ⟨⟨⟨⟨c0, c1, c2⟩, c3, c4, c5⟩, ⟨c6, c7, c8⟩, c9, c10, c11, c12⟩, cl⟩ := y0D C2.o.kC;by_cases hce : ce = 0
  ·subst hce;have HR := jQ (HR.o.trans (if_neg (by simp)));go_wp2_with fail;have HSB := jQ (show ∀ V, Cr w v f x V -> ((V.cell? ⟨w.heap.size, 0, none⟩ = some (.slice v.a1 f.st.length v.c1) /\ V.cell? ⟨w.heap.size, 1, none⟩ = some (.slice v.a2 f.li.length v.c2)) /\ V.cell? ⟨w.heap.size, 2, none⟩ = some (.slice v.a3 f.pa.length v.c3) /\ V.cell? ⟨w.heap.size, 3, none⟩ = some (.slice v.a4 f.va.length v.c4)) /\ (((V.cell? ⟨w.heap.size + 1, 0, none⟩ = some (.int .u8 x.k) /\ V.cell? ⟨w.heap.size + 1, 1, none⟩ = some (.int .i64 x.l) /\ V.cell? ⟨w.heap.size + 1, 2, none⟩ = some (.int .i64 x.o)) /\ (V.cell? ⟨w.heap.size + 1, 3, none⟩ = some (.int .i64 x.a) /\ V.cell? ⟨w.heap.size + 1, 4, none⟩ = some (.int .i64 x.b) /\ V.cell? ⟨w.heap.size + 1, 5, none⟩ = some (.int .i64 x.s))) /\ (V.cell? ⟨w.heap.size + 1, 6, none⟩ = some (.int .i64 x.e) /\ V.cell? ⟨w.heap.size + 1, 7, none⟩ = some (.int .i64 x.c.b) /\ V.cell? ⟨w.heap.size + 1, 8, none⟩ = some (.int .i64 x.c.n)) /\ (V.cell? ⟨w.heap.size + 1, 9, none⟩ = some (.int .i64 x.c.l) /\ V.cell? ⟨w.heap.size + 1, 10, none⟩ = some (.int .i64 x.c.y) /\ V.cell? ⟨w.heap.size + 1, 11, none⟩ = some (.int .i64 x.c.w) /\ V.cell? ⟨w.heap.size + 1, 12, none⟩ = some (.int .i64 x.c.s))) from fun V h => by
    obtain ⟨f0, f1, f2, f3, -⟩ := h.fs.cells;obtain ⟨⟨⟨⟨c0, c1, c2⟩, c3, c4, c5⟩, ⟨c6, c7, c8⟩, c9, c10, c11, c12⟩, -⟩ := y0D h.kC;exact ⟨⟨⟨f0, f1⟩, f2, f3⟩, ⟨⟨c0, c1, c2⟩, c3, c4, c5⟩, ⟨c6, c7, c8⟩, c9, c10, c11, c12⟩)
   have CZ : Cr w v f x w2.drew := C2.o.next (Below.refl _ _).drew;clear f0 f1 f2 f3 fl c0 c1 c2 c3 c4 c5 c6 c7 c8 c9 c10 c11 c12 cl;go_region_held3 (fun V => ((V.cell? ⟨w.heap.size, 0, none⟩ = some (.slice v.a1 f.st.length v.c1) /\ V.cell? ⟨w.heap.size, 1, none⟩ = some (.slice v.a2 f.li.length v.c2)) /\ V.cell? ⟨w.heap.size, 2, none⟩ = some (.slice v.a3 f.pa.length v.c3) /\ V.cell? ⟨w.heap.size, 3, none⟩ = some (.slice v.a4 f.va.length v.c4)) /\ (((V.cell? ⟨w.heap.size + 1, 0, none⟩ = some (.int .u8 x.k) /\ V.cell? ⟨w.heap.size + 1, 1, none⟩ = some (.int .i64 x.l) /\ V.cell? ⟨w.heap.size + 1, 2, none⟩ = some (.int .i64 x.o)) /\ (V.cell? ⟨w.heap.size + 1, 3, none⟩ = some (.int .i64 x.a) /\ V.cell? ⟨w.heap.size + 1, 4, none⟩ = some (.int .i64 x.b) /\ V.cell? ⟨w.heap.size + 1, 5, none⟩ = some (.int .i64 x.s))) /\ (V.cell? ⟨w.heap.size + 1, 6, none⟩ = some (.int .i64 x.e) /\ V.cell? ⟨w.heap.size + 1, 7, none⟩ = some (.int .i64 x.c.b) /\ V.cell? ⟨w.heap.size + 1, 8, none⟩ = some (.int .i64 x.c.n)) /\ (V.cell? ⟨w.heap.size + 1, 9, none⟩ = some (.int .i64 x.c.l) /\ V.cell? ⟨w.heap.size + 1, 10, none⟩ = some (.int .i64 x.c.y) /\ V.cell? ⟨w.heap.size + 1, 11, none⟩ = some (.int .i64 x.c.w) /\ V.cell? ⟨w.heap.size + 1, 12, none⟩ = some (.int .i64 x.c.s))))
    (first | ((try dsimp only); first | (with_reducible exact HSB.o _ C5) | (with_reducible exact HSB.o _ C4) | (with_reducible exact HSB.o _ CZ)))
    (first
     | (go_at_call 60; refine (B3.o _ CZ).mono ?_; rintro e w4 ⟨rfl, hb4⟩; have C4 : Cr w v f x w4 := CZ.next hb4)
     | (go_at_call 115; refine (B4.o _ C4).mono ?_; rintro e w5 ⟨rfl, hb5⟩; have C5 : Cr w v f x w5 := C4.next hb5))
   by_cases h4 : i4 = 0
   ·subst h4;have HR := jQ (HR.o.trans (if_neg (by simp)));rcases i3 with _ | _
    ·have HV := jQ (show R = 5 from HR.o);go_wp2_with fail;go_ret;exact ⟨y02 HV.o.symm, C5.fs.b⟩
    have HV := jQ (show R = 0 from HR.o);go_wp2_with fail;go_ret;exact ⟨y02 HV.o.symm, C5.fs.b⟩
   have HV := jQ (HR.o.trans (if_pos h4));have q4 : (i4 != 0) = true := by simp [h4]
   clear h4;go_wp2_with fail;go_ret;exact ⟨y02 HV.o.symm, C5.fs.b⟩
  have HV := jQ (HR.o.trans (if_pos hce));have q2 : (ce != 0) = true := by simp [hce]
  clear hce;go_wp2_with fail;go_ret;exact ⟨y02 HV.o.symm, C2.o.fs.b⟩
 have q1 : (x.k != 3) = true := by simpa using hk
 have HV := jQ (show R = 0 by rw [HR.o, if_pos hk]);clear hk;go_wp2_with fail;go_ret;exact ⟨y02 HV.o.symm, C1.o.fs.b⟩
theorem y0R (v : Fv) (f : Dd.Fd) (x : Dd.Ca) (w : World) (hF : FRd w w.heap.size v f) :
  Calls Tryz.prog 32 #[fval v f, caval x] w fun e w' => e = .returned (.int .i64 (Dd.callE f x)) /\ Below w.heap.size w w' := by
 have hd : Dd.callE f x = if Dd.fieldE f ≠ 0 then Dd.fieldE f else Dd.callG f x := rfl
 have C0 := jQ (Cr.new (x := x) hF);have B0 := jQ (fun W (h : Cr w v f x W) => y1m v f W h.fs.rd);have B1 := jQ (fun (h0 : Dd.fieldE f = 0) W (h : Cr w v f x W) => y48 v f x W h.fs.rd h0);simp only [y01, y03] at B0 B1 ⊢;obtain ⟨E, hE⟩ := zE (Dd.fieldE f);obtain ⟨G, hG⟩ := zE (Dd.callG f x);obtain ⟨R, hR⟩ := zE (Dd.callE f x);rw [hR, hE, hG] at hd;rw [hE] at B0;rw [hG] at B1;rw [hR];have HD := jQ hd;have HE := jQ hE;clear hF hd hE hG hR;obtain ⟨f0, f1, f2, f3, fl⟩ := C0.o.fs.cells;obtain ⟨⟨⟨⟨c0, c1, c2⟩, c3, c4, c5⟩, ⟨c6, c7, c8⟩, c9, c10, c11, c12⟩, cl⟩ := y0D C0.o.kC;go_enter Tryz.func32, Tryz.ntmps32;go_wp2_with fail;refine (B0.o _ C0.o).mono ?_;rintro e w1 ⟨rfl, hb⟩;have C1 := jQ (C0.o.next hb);clear hb f0 f1 f2 f3 fl c0 c1 c2 c3 c4 c5 c6 c7 c8 c9 c10 c11 c12 cl C0;obtain ⟨f0, f1, f2, f3, fl⟩ := C1.o.fs.cells;obtain ⟨⟨⟨⟨c0, c1, c2⟩, c3, c4, c5⟩, ⟨c6, c7, c8⟩, c9, c10, c11, c12⟩, cl⟩ := y0D C1.o.kC;by_cases h0 : E = 0
 ·have B1 := jQ (B1.o (HE.o.trans h0));subst h0;have HV := jQ (HD.o.trans (if_neg (by simp)));go_wp2_with fail;refine (B1.o _ C1.o).mono ?_;rintro e w2 ⟨rfl, hb⟩;have C2 := jQ (C1.o.next hb);clear hb;go_wp2_with fail;go_ret;exact ⟨y02 HV.o.symm, C2.o.fs.b⟩
 have HV := jQ (HD.o.trans (if_pos h0));have q1 : (E == 0) = false := by simp [h0]
 clear h0;go_wp2_with fail;go_ret;exact ⟨y02 HV.o.symm, C1.o.fs.b⟩
end

section
open Go.RowKit
theorem Cr.tree {w W : World} {v : Fv} {f : Dd.Fd} {x : Dd.Ca} (h : Cr w v f x W) : ((((W.cell? ⟨w.heap.size, 0, none⟩ = some (.slice v.a1 f.st.length v.c1) /\ W.cell? ⟨w.heap.size, 1, none⟩ = some (.slice v.a2 f.li.length v.c2)) /\ (W.cell? ⟨w.heap.size, 2, none⟩ = some (.slice v.a3 f.pa.length v.c3) /\ W.cell? ⟨w.heap.size, 3, none⟩ = some (.slice v.a4 f.va.length v.c4))) /\ ((W.cell? ⟨w.heap.size + 1, 0, none⟩ = some (.int .u8 x.k) /\ W.cell? ⟨w.heap.size + 1, 1, none⟩ = some (.int .i64 x.l)) /\ (W.cell? ⟨w.heap.size + 1, 2, none⟩ = some (.int .i64 x.o) /\ W.cell? ⟨w.heap.size + 1, 3, none⟩ = some (.int .i64 x.a)))) /\ (((W.cell? ⟨w.heap.size + 1, 4, none⟩ = some (.int .i64 x.b) /\ W.cell? ⟨w.heap.size + 1, 5, none⟩ = some (.int .i64 x.s)) /\ (W.cell? ⟨w.heap.size + 1, 6, none⟩ = some (.int .i64 x.e) /\ W.cell? ⟨w.heap.size + 1, 7, none⟩ = some (.int .i64 x.c.b))) /\ ((W.cell? ⟨w.heap.size + 1, 8, none⟩ = some (.int .i64 x.c.n) /\ W.cell? ⟨w.heap.size + 1, 9, none⟩ = some (.int .i64 x.c.l)) /\ (W.cell? ⟨w.heap.size + 1, 10, none⟩ = some (.int .i64 x.c.y) /\ (W.cell? ⟨w.heap.size + 1, 11, none⟩ = some (.int .i64 x.c.w) /\ W.cell? ⟨w.heap.size + 1, 12, none⟩ = some (.int .i64 x.c.s)))))) := by
 obtain ⟨f0, f1, f2, f3, _⟩ := h.fs.cells;obtain ⟨⟨⟨⟨c0, c1, c2⟩, c3, c4, c5⟩, ⟨c6, c7, c8⟩, c9, c10, c11, c12⟩, cl⟩ := y0D h.kC;exact ⟨⟨⟨⟨f0, f1⟩, f2, f3⟩, ⟨⟨c0, c1⟩, c2, c3⟩⟩, ⟨⟨⟨c4, c5⟩, c6, c7⟩, ⟨⟨c8, c9⟩, c10, c11, c12⟩⟩⟩
theorem y4h (a b : List Dd.Bd) : bcells (a ++ b) = bcells a ++ bcells b := List.flatMap_append
theorem Cr.next2 {w W W' : World} {v : Fv} {f : Dd.Fd} {x : Dd.Ca} (h : Cr w v f x W) (hb : Below (w.heap.size + 1 + 1) W W') : Cr w v f x W' :=
 ⟨⟨h.fs.b.trans (hb.mono (by omega)), h.fs.k.below hb (by omega), h.fs.r.below hb (by omega)⟩, h.kC.below hb (by omega)⟩
theorem y2J {w : World} {g : Nat} {t : TypeId} {p q lo hi r : Int} (h : Bk w g t #[.int .i64 p, .int .i64 q, .int .i64 hi, .int .i64 r, .int .i64 q, .int .i64 p, .int .i64 (-lo), .int .i64 r]) :
  Rd w w.heap.size 4 (some ⟨g, 0, none⟩) 2 (bcells [⟨p, q, hi, r⟩, ⟨q, p, -lo, r⟩]) := yBq (l := [⟨p, q, hi, r⟩, ⟨q, p, -lo, r⟩]) h
end

section
open Go.RowKit
theorem y5F (v : Fv) (f : Dd.Fd) (l o a b s e cb cn cl cy cw cs r : Int) (w : World) (hF : FRd w w.heap.size v f) (hg : Rg f ⟨1, l, o, a, b, s, e, cb, cn, cl, cy, cw, cs⟩) :
  Calls Tryz.prog 66 #[fval v f, caval ⟨1, l, o, a, b, s, e, cb, cn, cl, cy, cw, cs⟩, .int .i64 r] w fun ee w' => ∃ A c, ee = .returned (.slice A (Dd.bnds f ⟨1, l, o, a, b, s, e, cb, cn, cl, cy, cw, cs⟩ r).length c) /\ Rd w' w'.heap.size 4 A (Dd.bnds f ⟨1, l, o, a, b, s, e, cb, cn, cl, cy, cw, cs⟩ r).length (bcells (Dd.bnds f ⟨1, l, o, a, b, s, e, cb, cn, cl, cy, cw, cs⟩ r)) /\ Below w.heap.size w w' := by
 have hd : Dd.bnds f ⟨1, l, o, a, b, s, e, cb, cn, cl, cy, cw, cs⟩ r = [⟨0, Dd.pt f l a, s + e, r⟩, ⟨Dd.pt f l a, 0, -(s - e), r⟩] := rfl;rw [hd];obtain ⟨z0, z1, z2, z3, z4, z5, z6, z7⟩ := hg;dsimp only at z2 z3 z4 z5 z6 z7;have hx := Dd.y19 z0;have za : a <= 1000000 := by omega
 have zb : b <= 1000000 := by omega
 have hw1 : IntKind.i64.wrap (s - e) = s - e := IntWalk.i64_in _ (by omega);have hw2 : IntKind.i64.wrap (s + e) = s + e := IntWalk.i64_in _ (by omega);have BP := jQ (fun (l s : Int) (h0 : 0 <= l) (h1 : l <= 1000000) (h2 : 0 <= s) (h3 : s <= 1000000) W => y0b v f l s z1 h0 h1 h2 h3 W);have S0 := jQ (Cr.new (x := ⟨1, l, o, a, b, s, e, cb, cn, cl, cy, cw, cs⟩) hF);have T0 := jQ (fun V (h : Cr w v f ⟨1, l, o, a, b, s, e, cb, cn, cl, cy, cw, cs⟩ V) => Cr.tree h);have B1 := jQ (fun W => (BP.o l a z2.1 z2.2 z4.1 za W));obtain ⟨p, hp⟩ := zE (Dd.pt f l a);rw [hp] at B1;have BQ := jQ (fun W => y1o 0 p (s - e) (s + e) r (by omega) W);rw [hp];simp only [y01, y03] at B1 S0 T0 ⊢;clear BP hp hF hx z0 z6 z7 hd;obtain ⟨⟨⟨⟨f0, f1⟩, f2, f3⟩, ⟨⟨c0, c1⟩, c2, c3⟩⟩, ⟨⟨⟨c4, c5⟩, c6, c7⟩, ⟨⟨c8, c9⟩, c10, c11, c12⟩⟩⟩ := T0.o _ S0.o;go_enter Tryz.func66, Tryz.ntmps66;go_wp2_with fail;refine (B1.o _).mono ?_;rintro ee w1 ⟨rfl, hb1⟩;have S1 := jQ (S0.o.next hb1);clear hb1 f0 f1 f2 f3 c0 c1 c2 c3 c4 c5 c6 c7 c8 c9 c10 c11 c12 S0;obtain ⟨⟨⟨⟨f0, f1⟩, f2, f3⟩, ⟨⟨c0, c1⟩, c2, c3⟩⟩, ⟨⟨⟨c4, c5⟩, c6, c7⟩, ⟨⟨c8, c9⟩, c10, c11, c12⟩⟩⟩ := T0.o _ S1.o;go_wp2_with fail;refine (BQ.o _).mono ?_;rintro ee w2 ⟨rfl, hk2, hb2⟩;have S2 := jQ (S1.o.next hb2);have K2 := jQ hk2;clear hk2 hb2;go_wp2_with fail;go_ret;exact ⟨_, _, rfl, y2J K2.o, S2.o.fs.b⟩
theorem y5E (v : Fv) (f : Dd.Fd) (l o a b s e cb cn cl cy cw cs r : Int) (w : World) (hF : FRd w w.heap.size v f) (hg : Rg f ⟨5, l, o, a, b, s, e, cb, cn, cl, cy, cw, cs⟩) :
  Calls Tryz.prog 66 #[fval v f, caval ⟨5, l, o, a, b, s, e, cb, cn, cl, cy, cw, cs⟩, .int .i64 r] w fun ee w' => ∃ A c, ee = .returned (.slice A (Dd.bnds f ⟨5, l, o, a, b, s, e, cb, cn, cl, cy, cw, cs⟩ r).length c) /\ Rd w' w'.heap.size 4 A (Dd.bnds f ⟨5, l, o, a, b, s, e, cb, cn, cl, cy, cw, cs⟩ r).length (bcells (Dd.bnds f ⟨5, l, o, a, b, s, e, cb, cn, cl, cy, cw, cs⟩ r)) /\ Below w.heap.size w w' := by
 have hd : Dd.bnds f ⟨5, l, o, a, b, s, e, cb, cn, cl, cy, cw, cs⟩ r = [⟨Dd.pt f l a, Dd.pt f l b, s + e, r⟩, ⟨Dd.pt f l b, Dd.pt f l a, -(s - e), r⟩] := rfl;rw [hd];obtain ⟨z0, z1, z2, z3, z4, z5, z6, z7⟩ := hg;dsimp only at z2 z3 z4 z5 z6 z7;have hx := Dd.y19 z0;have za : a <= 1000000 := by omega
 have zb : b <= 1000000 := by omega
 have hw1 : IntKind.i64.wrap (s - e) = s - e := IntWalk.i64_in _ (by omega);have hw2 : IntKind.i64.wrap (s + e) = s + e := IntWalk.i64_in _ (by omega);have BP := jQ (fun (l s : Int) (h0 : 0 <= l) (h1 : l <= 1000000) (h2 : 0 <= s) (h3 : s <= 1000000) W => y0b v f l s z1 h0 h1 h2 h3 W);have S0 := jQ (Cr.new (x := ⟨5, l, o, a, b, s, e, cb, cn, cl, cy, cw, cs⟩) hF);have T0 := jQ (fun V (h : Cr w v f ⟨5, l, o, a, b, s, e, cb, cn, cl, cy, cw, cs⟩ V) => Cr.tree h);have B1 := jQ (fun W => (BP.o l a z2.1 z2.2 z4.1 za W));obtain ⟨p, hp⟩ := zE (Dd.pt f l a);rw [hp] at B1;have B2 := jQ (fun W => (BP.o l b z2.1 z2.2 z5.1 zb W));obtain ⟨q, hq⟩ := zE (Dd.pt f l b);rw [hq] at B2;have BQ := jQ (fun W => y1o p q (s - e) (s + e) r (by omega) W);rw [hp, hq];simp only [y01, y03] at B1 B2 S0 T0 ⊢;clear BP hp hq hF hx z0 z6 z7 hd;obtain ⟨⟨⟨⟨f0, f1⟩, f2, f3⟩, ⟨⟨c0, c1⟩, c2, c3⟩⟩, ⟨⟨⟨c4, c5⟩, c6, c7⟩, ⟨⟨c8, c9⟩, c10, c11, c12⟩⟩⟩ := T0.o _ S0.o;go_enter Tryz.func66, Tryz.ntmps66;go_wp2_with fail;refine (B1.o _).mono ?_;rintro ee w1 ⟨rfl, hb1⟩;have S1 := jQ (S0.o.next hb1);clear hb1 f0 f1 f2 f3 c0 c1 c2 c3 c4 c5 c6 c7 c8 c9 c10 c11 c12 S0;obtain ⟨⟨⟨⟨f0, f1⟩, f2, f3⟩, ⟨⟨c0, c1⟩, c2, c3⟩⟩, ⟨⟨⟨c4, c5⟩, c6, c7⟩, ⟨⟨c8, c9⟩, c10, c11, c12⟩⟩⟩ := T0.o _ S1.o;go_wp2_with fail;refine (B2.o _).mono ?_;rintro ee w2 ⟨rfl, hb2⟩;have S2 := jQ (S1.o.next hb2);clear hb2 f0 f1 f2 f3 c0 c1 c2 c3 c4 c5 c6 c7 c8 c9 c10 c11 c12 S1;go_wp2_with fail;refine (BQ.o _).mono ?_;rintro ee w3 ⟨rfl, hk3, hb3⟩;have S3 := jQ (S2.o.next hb3);have K3 := jQ hk3;clear hk3 hb3;go_wp2_with fail;go_ret;exact ⟨_, _, rfl, y2J K3.o, S3.o.fs.b⟩
end
end Go.Proofs.YtccikcpcfdjobaaGreatDoor
