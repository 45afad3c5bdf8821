/-
  What the claims of layer deed need of the texts DNat, DNtf, DAdj, DOpn, DOpl.
-/
import Derived.Deep.AppendLies
import Derived.Maps.OwnIn
import Derived.Deep.RegionHeld3
import Derived.Laws.BytesArg
import Derived.Test.YtcbeefbefapicaaGreatDoorBn16
import Derived.Test.YtcbeefbefapicaaGreatDoorBn10
import Derived.Test.YtcbeefbefapicaaGreatDoorBn02
import Derived.Test.YtcbeefbefapicaaGreatDoorBn04
import Derived.Test.YtcbeefbefapicaaGreatDoorBn08
import Derived.Test.YtcbeefbefapicaaGreatDoorBn07
set_option linter.unusedVariables false
set_option linter.unusedSimpArgs false
namespace Go.Proofs.YtcbeefbefapicaaGreatDoor
open Go.RowKit
set_option maxRecDepth 100000
namespace Dd
theorem natP_snoc : ∀ n p : Nat, natP (n + 1) p = natP n p ++ [⟨0, ((p + n : Nat) : Int), 100000, 0⟩, ⟨((p + n : Nat) : Int), 0, 0, 0⟩]
  | 0, p => by simp [natP]
  | n + 1, p => by
    rw [natP, natP_snoc n (p + 1), natP, show p + 1 + n = p + (n + 1) by omega]
    rfl
theorem natS_snoc (k l : Nat) : ∀ n s : Nat, natS k l (n + 1) s = natS k l n s ++ [⟨1 + ((l : Int) + 1) * k + ((s + n : Nat) : Int), 1 + (l : Int) * k + ((s + n : Nat) : Int), 0, 0⟩]
  | 0, s => by simp [natS]
  | n + 1, s => by
    rw [natS, natS_snoc k l n (s + 1), natS, show s + 1 + n = s + (n + 1) by omega]
    rfl
theorem natL_snoc (k : Nat) : ∀ n l : Nat, natL k (n + 1) l = natL k n l ++ natS k (l + n) k 0
  | 0, l => by simp [natL]
  | n + 1, l => by
    rw [natL, natL_snoc k n (l + 1), natL, show l + 1 + n = l + (n + 1) by omega, List.append_assoc]
theorem natP_len : ∀ n p : Nat, (natP n p).length = 2 * n
 | 0, p => rfl
 | n + 1, p => by rw [natP, List.length_cons, List.length_cons, natP_len n (p + 1)]; omega
theorem natS_len (k l : Nat) : ∀ n s : Nat, (natS k l n s).length = n
 | 0, s => rfl
 | n + 1, s => by rw [natS, List.length_cons, natS_len k l n (s + 1)]
theorem natL_len (k : Nat) : ∀ n l : Nat, (natL k n l).length = n * k
 | 0, l => by simp [natL]
 | n + 1, l => by rw [natL, List.length_append, natS_len, natL_len k n (l + 1), Nat.succ_mul]; omega
end Dd
theorem wpList_appN {P : Program} {ops : Array Oper} {rest : List Oper} {o : Oper} {a : Act} {Q : Exit → Act → World → Prop} (hgd : o.guard = none) (s x : Operand) (t : TypeId)
  (ho : o.op = .call { callee := .builtin .append, args := #[s, x], argTypes := #[t, t] })
  (e : TypeId) (i : TypeInfo) (z : Value) (size bytes : Nat) (ht : P.underlying t = some (.slice e)) (hi : P.info? e = some i) (hz : i.zero = some z) (hsize : i.size = size) (hby : i.bytes = bytes) (hzs : z.cells.size = size) (hsz : 0 < size)
  (base : Nat) (v : Value) (n : Nat) (xs : List Value) (cs : Array Value) (m cap : Nat) (w : World) (hs : a.eval s = v) (hown : w.ownsRow base e size v n xs) (hx : a.eval x = .slice (some ⟨w.heap.size, 0, none⟩) m cap) (hl : cs.toList.length = m * size)
  (h1 : ∀ u ∈ cs.toList, u.oneCell' = true) (hm : 0 < m) (h63 : n + m ≤ maxLen) (hbytes : (n + m) * bytes ≤ 140737488355328) (hbase : base ≤ w.heap.size)
  (h : ∀ v' w', w'.ownsRow base e size v' (n + m) (xs ++ cs.toList) → Below base w w' → wpList P ops Q rest (a.put o.dst v') w') :
  wpList P ops Q (o :: rest) a (w.alloc (.cells cs e)) := by
 refine wpList_append_lies (w.alloc (.cells cs e)) hgd s x t ho base e i z size bytes ht hi hz hsize hby hzs hsz v n xs hs (hown.alloc _) ⟨w.heap.size, 0, none⟩ m cap cs.toList hx hl (World.news_of_block (cs := cs) (t := e) (fr := (0, 0)) (World.alloc_heap_new _ _)) h1 hm h63 hbytes (by simp; omega) (w.heap.size + 1) (by simp)
  fun g cap' w' h2 h3 h4 h5 => h _ w' h2 ?_
 have hb := (Below.refl base w).alloc hbase (.cells cs e)
 exact below_own hb (Nat.le_refl _) h3 (fun r e => (hown.lt r e).1) (by simp; omega)
theorem grown_below {w w' : World} (h : Below w.heap.size w w') : w.grownBy w' none := ⟨h.os, h.tape, h.output, h.size, fun k hk _ => h.block k hk⟩
theorem own_belowG {w w' : World} {base e size : Nat} {v : Value} {n : Nat} {xs : List Value} (h : w.ownsRow base e size v n xs) (hb : Below w.heap.size w w') : w'.ownsRow base e size v n xs :=
 h.kept (grown_below hb) (by rcases h : v.ownBlock with _ | g <;> simp)
theorem bcells_one (l : List Dd.Bd) : ∀ u ∈ bcells l, u.oneCell' = true := by
 intro u hu
 unfold bcells at hu
 simp only [List.mem_flatMap, bcell, List.mem_cons, List.not_mem_nil, or_false] at hu
 obtain ⟨b, _, rfl | rfl | rfl | rfl⟩ := hu <;> rfl
theorem bcellsD_length : ∀ l : List Dd.Bd, (bcells l).length = l.length * 4
  | [] => rfl
  | b :: l => by
    have e : bcells (b :: l) = bcell b ++ bcells l := rfl
    rw [e, List.length_append, bcellsD_length l, List.length_cons, Nat.succ_mul]
    simp [bcell]
    omega
theorem bkB_rd {w : World} {g : Nat} {t : TypeId} {l : List Dd.Bd} (h : Bk w g t (bcells l).toArray) : Rd w w.heap.size 4 (some ⟨g, 0, none⟩) l.length (bcells l) := by
 refine ⟨bcellsD_length l, fun _ => ⟨g, 0, rfl, h.lt, fun j hj => ?_⟩⟩
 rw [Nat.zero_add, h.cell j, List.getElem?_toArray]
theorem newB_rd (w : World) (a b : Int) : Rd (w.alloc (.cells #[.int .i64 a, .int .i64 b, .int .i64 0, .int .i64 0] 77)) (w.alloc (.cells #[.int .i64 a, .int .i64 b, .int .i64 0, .int .i64 0] 77)).heap.size 4 (some ⟨w.heap.size, 0, none⟩) 1 (bcells [⟨a, b, 0, 0⟩]) :=
 bkB_rd (l := [⟨a, b, 0, 0⟩]) (Bk.new w 77 #[.int .i64 a, .int .i64 b, .int .i64 0, .int .i64 0])
theorem infoB : (Tryz.prog.info? 77).map (fun i => (i.zero, i.size, i.bytes)) = some (some (.agg #[.int .i64 0, .int .i64 0, .int .i64 0, .int .i64 0]), 4, 32) := by kernel_rfl
set_option maxHeartbeats 8000000 in
theorem nature_any (v : Fv) (f : Dd.Fd) (hn : f.st.length ≤ 100) (hm : f.li.length ≤ 100) (hm1 : 1 ≤ f.li.length) (w : World) :
  Calls Tryz.prog 33 #[fval v f] w fun e w' => ∃ A c, e = .returned (.slice A (Dd.nat f).length c) ∧ Rd w' w'.heap.size 4 A (Dd.nat f).length (bcells (Dd.nat f)) ∧ (∀ a, A = some a → w.heap.size ≤ a.block) ∧ Below w.heap.size w w' := by
 obtain ⟨i0, hi0, hz0, hz1, hz2⟩ := info_parts infoB
 have hP := fun W => pointsOf_any v f (by omega) (by omega) W
 have hpt := fun (l s : Int) (h0 : 0 ≤ l) (h1 : l ≤ 1000) (h2 : 0 ≤ s) (h3 : s ≤ 1000) W => pointOf_any v f l s (by omega) h0 (by omega) h2 (by omega) W
 have hN : Dd.ptsN f = 1 + f.li.length * f.st.length := rfl
 have hN2 := Nat.mul_le_mul hm hn
 obtain ⟨N, hNN⟩ : ∃ N, Dd.ptsN f = N := ⟨_, rfl⟩
 rw [hNN] at hN
 have hnat : Dd.nat f = Dd.natP (N - 1) 1 ++ Dd.natL f.st.length (f.li.length - 1) 0 := by unfold Dd.nat; rw [hNN]
 rw [hNN] at hP
 simp only [fval_def] at hP hpt ⊢
 have HP := Lib.hid hP
 have HPT := Lib.hid hpt
 have HNT := Lib.hid hnat
 have hN1 : 1 ≤ N := by omega
 have hN3 : N ≤ 10001 := by omega
 have KF := Lib.hid (Bk.new w 27 #[.slice v.a1 f.st.length v.c1, .slice v.a2 f.li.length v.c2, .slice v.a3 f.pa.length v.c3, .slice v.a4 f.va.length v.c4])
 have HB0 := Lib.hid ((Below.refl w.heap.size w).alloc (Nat.le_refl _) (.cells #[.slice v.a1 f.st.length v.c1, .slice v.a2 f.li.length v.c2, .slice v.a3 f.pa.length v.c3, .slice v.a4 f.va.length v.c4] 27))
 clear hP hpt hNN hnat hN hN2
 go_enter Tryz.func33, Tryz.ntmps33
 go_wp2_with fail
 go_loopw [3, 4] (fun V I wr => ∃ p : Nat, 1 ≤ p ∧ p ≤ N ∧ I = .int .i64 p ∧ wr.ownsRow (w.heap.size + 1) 77 4 V (Dd.natP (p - 1) 1).length (bcells (Dd.natP (p - 1) 1)) ∧ Below w.heap.size w wr ∧
   Bk wr w.heap.size 27 #[.slice v.a1 f.st.length v.c1, .slice v.a2 f.li.length v.c2, .slice v.a3 f.pa.length v.c3, .slice v.a4 f.va.length v.c4]) (fun _ I _ => N - (intOf I).toNat)
 case atStart => exact ⟨1, Nat.le_refl _, hN1, rfl, World.ownsRow_nil _ _ _ _, HB0.out, KF.out⟩
 case round =>
  clear KF HB0
  obtain ⟨p, hp1, hpN, rfl, hown, hB, hK⟩ := hrel
  have c0 := (hK.cell 0).trans rfl
  have c1 := (hK.cell 1).trans rfl
  have c2 := (hK.cell 2).trans rfl
  have c3 := (hK.cell 3).trans rfl
  have lg := hK.lt
  have HO := Lib.hid hown
  have HB := Lib.hid hB
  have HK := Lib.hid hK
  clear hown hB hK
  by_cases hlt : p < N
  ·have d1 : decide ((p : Int) < (N : Int)) = true := decide_eq_true (by omega)
   go_wp2_with fail
   refine (HP.out _).mono ?_
   rintro e w1 ⟨rfl, hb⟩
   have HB1 := Lib.hid (HB.out.trans (hb.mono HB.out.size))
   have HK1 := Lib.hid (HK.out.below hb HK.out.lt)
   have hown := own_belowG HO.out hb
   have HBS := Lib.hid (show w.heap.size + 1 ≤ w1.heap.size from Nat.le_trans (Nat.succ_le_of_lt HK.out.lt) hb.size)
   clear hb c0 c1 c2 c3 lg
   have HO1 := Lib.hid hown
   have hlen := Dd.natP_len (p - 1) 1
   have hsn := Dd.natP_snoc (p - 1) 1
   rw [show p - 1 + 1 = p by omega, show 1 + (p - 1) = p by omega] at hsn
   have hcl : bcells (Dd.natP p 1) = bcells (Dd.natP (p - 1) 1) ++ [.int .i64 0, .int .i64 p, .int .i64 100000, .int .i64 0, .int .i64 p, .int .i64 0, .int .i64 0, .int .i64 0] := by
    rw [hsn]
    unfold bcells
    rw [List.flatMap_append]
    rfl
   have HCL := Lib.hid hcl
   have HL2 := Lib.hid (show (Dd.natP p 1).length = (Dd.natP (p - 1) 1).length + 2 by rw [Dd.natP_len, Dd.natP_len]; omega)
   obtain ⟨q, hq⟩ : ∃ q, (Dd.natP (p - 1) 1).length = q := ⟨_, rfl⟩
   rw [hq] at hown hlen HO1 HL2
   have hbs := HB1.out.size
   have hbw := HB.out.size
   have HKL := Lib.hid HK.out.lt
   clear hsn hcl hq HO HK HB
   go_wp2_with (at_builtin; refine wpList_appN rfl (.tmp 13) (.tmp 18) 45 rfl 77 i0 _ 4 32 Tryz.underlying45 hi0 hz0 hz1 hz2 rfl (by omega) (w.heap.size + 1) u3 q _ _ 2 2 w1 rfl hown rfl rfl (bcells_one [⟨0, p, 100000, 0⟩, ⟨p, 0, 0, 0⟩]) (by omega) (by unfold maxLen; omega) (by omega) HBS.out ?_; intro v' W2 hv2 hb2)
   refine ⟨⟨p + 1, by omega, by omega, rfl, ?_, HB1.out.trans (hb2.mono (Nat.le_succ _)), HK1.out.below hb2 (Nat.lt_succ_self _)⟩, ?_⟩
   ·rw [Nat.add_sub_cancel, HL2.out, HCL.out]
    exact hv2
   ·show N - ((p : Int) + 1).toNat < N - ((p : Int)).toNat
    omega
  ·have d1 : decide ((p : Int) < (N : Int)) = false := decide_eq_false (by omega)
   have hpe : p = N := by omega
   subst hpe
   go_wp2_with fail
   refine (HP.out _).mono ?_
   rintro e w1 ⟨rfl, hb⟩
   have HB1 := Lib.hid (HB.out.trans (hb.mono HB.out.size))
   have HK1 := Lib.hid (HK.out.below hb HK.out.lt)
   have HO1 := Lib.hid (own_belowG HO.out hb)
   clear hb c0 c1 c2 c3 lg HB HK HO HP
   have c0 := (HK1.out.cell 0).trans rfl
   have c1 := (HK1.out.cell 1).trans rfl
   have c2 := (HK1.out.cell 2).trans rfl
   have c3 := (HK1.out.cell 3).trans rfl
   have lg := HK1.out.lt
   go_wp2_with fail
   clear c0 c1 c2 c3 lg
   go_loopw [3, 24] (fun V I wr => ∃ l : Nat, l ≤ f.li.length - 1 ∧ I = .int .i64 l ∧ wr.ownsRow (w.heap.size + 1) 77 4 V ((Dd.natP (p - 1) 1).length + (Dd.natL f.st.length l 0).length) (bcells (Dd.natP (p - 1) 1) ++ bcells (Dd.natL f.st.length l 0)) ∧ Below w.heap.size w wr ∧
     Bk wr w.heap.size 27 #[.slice v.a1 f.st.length v.c1, .slice v.a2 f.li.length v.c2, .slice v.a3 f.pa.length v.c3, .slice v.a4 f.va.length v.c4]) (fun _ I _ => f.li.length - 1 - (intOf I).toNat)
   case atStart => exact ⟨0, Nat.zero_le _, rfl, (by simpa [Dd.natL, bcells] using HO1.out), HB1.out, HK1.out⟩
   case round =>
    clear HK1 HB1 HO1
    obtain ⟨l, hl, rfl, hown, hB, hK⟩ := hrel
    have c0 := (hK.cell 0).trans rfl
    have c1 := (hK.cell 1).trans rfl
    have c2 := (hK.cell 2).trans rfl
    have c3 := (hK.cell 3).trans rfl
    have lg := hK.lt
    have HO := Lib.hid hown
    have HB := Lib.hid hB
    have HK := Lib.hid hK
    clear hown hB hK
    by_cases hlt : l < f.li.length - 1
    ·have d1 : decide ((l : Int) < (f.li.length : Int) - 1) = true := decide_eq_true (by omega)
     go_wp2_with fail
     clear c0 c1 c2 c3 lg d1
     go_loopw [3, 30] (fun V I wr => ∃ j : Nat, j ≤ f.st.length ∧ I = .int .i64 j ∧ wr.ownsRow (w.heap.size + 1) 77 4 V ((Dd.natP (p - 1) 1).length + (Dd.natL f.st.length l 0).length + j) (bcells (Dd.natP (p - 1) 1) ++ bcells (Dd.natL f.st.length l 0) ++ bcells (Dd.natS f.st.length l j 0)) ∧ Below w.heap.size w wr ∧
       Bk wr w.heap.size 27 #[.slice v.a1 f.st.length v.c1, .slice v.a2 f.li.length v.c2, .slice v.a3 f.pa.length v.c3, .slice v.a4 f.va.length v.c4]) (fun _ I _ => f.st.length - (intOf I).toNat)
     case atStart => exact ⟨0, Nat.zero_le _, rfl, (by simpa [Dd.natS, bcells] using HO.out), HB.out, HK.out⟩
     case round =>
      clear HK HB HO
      obtain ⟨j, hj, rfl, hown, hB, hK⟩ := hrel
      have c0 := (hK.cell 0).trans rfl
      have c1 := (hK.cell 1).trans rfl
      have c2 := (hK.cell 2).trans rfl
      have c3 := (hK.cell 3).trans rfl
      have lg := hK.lt
      have HO := Lib.hid hown
      have HB := Lib.hid hB
      have HK := Lib.hid hK
      clear hown hB hK
      by_cases hjk : j < f.st.length
      ·have d1 : decide ((j : Int) < (f.st.length : Int)) = true := decide_eq_true (by omega)
       go_wp2_with fail
       have HSC := Lib.hid fun (W : World) (hk : Bk W w.heap.size 27 #[.slice v.a1 f.st.length v.c1, .slice v.a2 f.li.length v.c2, .slice v.a3 f.pa.length v.c3, .slice v.a4 f.va.length v.c4]) => (show (W.cell? ⟨w.heap.size, 0, none⟩ = some (.slice v.a1 f.st.length v.c1) ∧ W.cell? ⟨w.heap.size, 1, none⟩ = some (.slice v.a2 f.li.length v.c2)) ∧ (W.cell? ⟨w.heap.size, 2, none⟩ = some (.slice v.a3 f.pa.length v.c3) ∧ W.cell? ⟨w.heap.size, 3, none⟩ = some (.slice v.a4 f.va.length v.c4)) from
        ⟨⟨(hk.cell 0).trans rfl, (hk.cell 1).trans rfl⟩, (hk.cell 2).trans rfl, (hk.cell 3).trans rfl⟩)
       have HSB := Lib.hid fun (W : World) (hb : Below wr.heap.size wr W) => HSC.out W (HK.out.below hb HK.out.lt)
       have hwl : IntKind.i64.wrap ((l : Int) + 1) = (l : Int) + 1 := IntWalk.i64_in _ (by omega)
       obtain ⟨Q, hQ⟩ : ∃ Q, (Dd.natP (p - 1) 1).length + (Dd.natL f.st.length l 0).length + j = Q := ⟨_, rfl⟩
       obtain ⟨X, hX⟩ : ∃ X, bcells (Dd.natP (p - 1) 1) ++ bcells (Dd.natL f.st.length l 0) ++ bcells (Dd.natS f.st.length l j 0) = X := ⟨_, rfl⟩
       have hO := HO.out
       rw [hQ, hX] at hO
       have HO1 := Lib.hid hO
       have HQ := Lib.hid hQ
       have HX := Lib.hid hX
       have hQm : Q ≤ 1000000 := by
        rw [← hQ, Dd.natP_len, Dd.natL_len]
        have := Nat.mul_le_mul (show l ≤ 100 by omega) hn
        omega
       have HKL := Lib.hid HK.out.lt
       have hbD : Below wr.heap.size wr wr.drew := (Below.refl _ _).drew
       clear hO hQ hX HO
       go_region_held3 (fun V => (V.cell? ⟨w.heap.size, 0, none⟩ = some (.slice v.a1 f.st.length v.c1) ∧ V.cell? ⟨w.heap.size, 1, none⟩ = some (.slice v.a2 f.li.length v.c2)) ∧ (V.cell? ⟨w.heap.size, 2, none⟩ = some (.slice v.a3 f.pa.length v.c3) ∧ V.cell? ⟨w.heap.size, 3, none⟩ = some (.slice v.a4 f.va.length v.c4)))
        (first
         | go_keep
         | ((try dsimp only); first | (with_reducible exact g0) | (with_reducible exact g1) | (with_reducible exact g2) | (with_reducible exact g3)))
        (first
         | (go_at_call 30; refine (HPT.out _ _ (by omega) (by omega) (by omega) (by omega) _).mono ?_; first | (rintro e w3 ⟨rfl, hb3⟩; have hbF : Below wr.heap.size wr w3 := hbE.trans (hb3.mono hbE.size); obtain ⟨⟨g0, g1⟩, ⟨g2, g3⟩⟩ := HSB.out _ hbF; have hown3 := Lib.hid ((own_belowG HO1.out hbF).alloc (.cells #[.int .i64 (Dd.pt f ((l : Int) + 1) j), .int .i64 (Dd.pt f l j), .int .i64 0, .int .i64 0] 77)); have hrd3 := Lib.hid (newB_rd w3 (Dd.pt f ((l : Int) + 1) j) (Dd.pt f l j))) | (rintro e w2 ⟨rfl, hb2⟩; have hbE : Below wr.heap.size wr w2 := hbD.trans (hb2.mono hbD.size); obtain ⟨⟨e0, e1⟩, ⟨e2, e3⟩⟩ := HSB.out _ hbE))
         | (refine step_append_rd rfl (.tmp 33) (.tmp 44) 45 rfl (w.heap.size + 1) 77 i0 _ 4 32 Tryz.underlying45 hi0 hz0 hz1 hz2 rfl (by omega) u3 Q X (by rfl) hown3.out (some ⟨w3.heap.size, 0, none⟩) 1 1 _ _ (by rfl) hrd3.out (bcells_one _) (by unfold maxLen; omega) (by omega) (Nat.le_trans HKL.out (Nat.le_trans hbF.size (by simp))) ?_; intro v4 W4 hown4 hg4 hat4; have hb4 : Below (w.heap.size + 1) wr W4 := below_own ((hbF.mono HKL.out).alloc (Nat.le_trans HKL.out hbF.size) _) (Nat.le_refl _) hg4 (fun r e => (hown3.out.lt r e).1) (Nat.le_trans HKL.out (Nat.le_trans hbF.size (by simp))); obtain ⟨⟨h0, h1⟩, ⟨h2, h3⟩⟩ := HSC.out W4 (HK.out.below hb4 (Nat.lt_succ_self _))))
       all_goals
        have HB4 := Lib.hid (HB.out.trans (hb4.mono (Nat.le_succ _)))
        have HK4 := Lib.hid (HK.out.below hb4 (Nat.lt_succ_self _))
        have HO4 := Lib.hid hown4
        clear h0 h1 h2 h3 hb4 hown4 hg4 hat4
        go_wp2_with fail
        refine ⟨⟨j + 1, by omega, rfl, ?_, HB4.out, HK4.out⟩, ?_⟩
        ·rw [Dd.natS_snoc, Nat.zero_add, ← Nat.add_assoc, HQ.out, show bcells (Dd.natS f.st.length l j 0 ++ [⟨1 + ((l : Int) + 1) * f.st.length + (j : Int), 1 + (l : Int) * f.st.length + (j : Int), 0, 0⟩]) = bcells (Dd.natS f.st.length l j 0) ++ bcells [⟨1 + ((l : Int) + 1) * f.st.length + (j : Int), 1 + (l : Int) * f.st.length + (j : Int), 0, 0⟩] by unfold bcells; rw [List.flatMap_append], ← List.append_assoc, HX.out]
         exact HO4.out
        ·show f.st.length - ((j : Int) + 1).toNat < f.st.length - ((j : Int)).toNat
         omega
      ·have d1 : decide ((j : Int) < (f.st.length : Int)) = false := decide_eq_false (by omega)
       have hje : j = f.st.length := by omega
       subst hje
       clear c0 c1 c2 c3 lg
       go_wp2_with fail
       refine ⟨⟨l + 1, by omega, rfl, ?_, HB.out, HK.out⟩, ?_⟩
       ·rw [Dd.natL_snoc, Nat.zero_add, List.length_append, Dd.natS_len, show bcells (Dd.natL f.st.length l 0 ++ Dd.natS f.st.length l f.st.length 0) = bcells (Dd.natL f.st.length l 0) ++ bcells (Dd.natS f.st.length l f.st.length 0) by unfold bcells; rw [List.flatMap_append], ← List.append_assoc, ← Nat.add_assoc]
        exact HO.out
       ·show f.li.length - 1 - ((l : Int) + 1).toNat < f.li.length - 1 - ((l : Int)).toNat
        omega
    ·have d1 : decide ((l : Int) < (f.li.length : Int) - 1) = false := decide_eq_false (by omega)
     have hle : l = f.li.length - 1 := by omega
     have HE := Lib.hid hle
     clear hle c0 c1 c2 c3 lg
     have hq : (Dd.natP (p - 1) 1).length + (Dd.natL f.st.length l 0).length = (Dd.nat f).length := by rw [HNT.out, List.length_append, HE.out]
     have hcells : bcells (Dd.natP (p - 1) 1) ++ bcells (Dd.natL f.st.length l 0) = bcells (Dd.nat f) := by
      rw [HNT.out, HE.out]
      unfold bcells
      rw [List.flatMap_append]
     have hO := HO.out
     rw [hq, hcells] at hO
     obtain ⟨A', c', rfl, hrd, hfar⟩ := ownB_rd hO (bcellsD_length _)
     have HR := Lib.hid hrd
     have HF := Lib.hid hfar
     clear hO hq hcells hrd hfar HO
     go_wp2_with fail
     go_ret
     exact ⟨A', c', rfl, HR.out, fun a e => Nat.le_of_succ_le (HF.out a e), HB.out⟩
end Go.Proofs.YtcbeefbefapicaaGreatDoor

namespace Go.Proofs.YtcbeefbefapicaaGreatDoor
open Go.RowKit
set_option maxRecDepth 100000
set_option maxHeartbeats 4000000 in
theorem Nature_any (v : Fv) (f : Dd.Fd) (w : World) (hF : FRd w w.heap.size v f) :
  Calls Tryz.prog 14 #[fval v f] w fun e w' => ∃ A c, e = .returned (.tuple #[.slice A (Dd.natureF f).1.length c, .int .i64 (Dd.natureF f).2]) ∧ Rd w' w'.heap.size 4 A (Dd.natureF f).1.length (bcells (Dd.natureF f).1) ∧ (∀ a, A = some a → w.heap.size ≤ a.block) ∧ Below w.heap.size w w' := by
 have hd : Dd.natureF f = if Dd.fieldE f ≠ 0 then ([], Dd.fieldE f) else (Dd.nat f, 0) := rfl
 have S0 := Lib.hid (Fs.new hF)
 have B0 := Lib.hid (fun W (h : Fs w w.heap.size v f W) => checkField_any v f W h.rd)
 have B1 := Lib.hid (fun (h : Dd.fieldE f = 0) W => nature_any v f (by have := Dd.field_facts h; omega) (by have := Dd.field_facts h; omega) (Dd.field_facts h).1 W)
 rw [hd]
 obtain ⟨ef, hef⟩ : ∃ e, Dd.fieldE f = e := ⟨_, rfl⟩
 rw [hef] at B0 B1 ⊢
 obtain ⟨nf, hnf⟩ : ∃ e, Dd.nat f = e := ⟨_, rfl⟩
 rw [hnf] at B1 ⊢
 simp only [fval_def] at B0 B1 ⊢
 obtain ⟨c0, c1, c2, c3, lg⟩ := S0.out.cells
 clear hd hF hef hnf
 by_cases he : ef = 0
 ·have B2 := Lib.hid (B1.out he)
  subst he
  rw [if_neg (by simp)]
  go_enter Tryz.func14, Tryz.ntmps14
  go_wp2_with fail
  refine (B0.out _ S0.out).mono ?_
  rintro e w1 ⟨rfl, hb⟩
  have S1 := Lib.hid (S0.out.next hb)
  clear hb c0 c1 c2 c3 lg
  obtain ⟨c0, c1, c2, c3, lg⟩ := S1.out.cells
  go_wp2_with fail
  refine (B2.out _).mono ?_
  rintro e w2 ⟨A, c, rfl, hr, hfar, hb⟩
  have S2 := Lib.hid (S1.out.next hb)
  have HR := Lib.hid hr
  have HF := Lib.hid (fun a (e : A = some a) => Nat.le_trans S1.out.b.size (hfar a e))
  clear hb hr hfar c0 c1 c2 c3 lg
  go_wp2_with fail
  go_ret2
  exact ⟨A, c, rfl, HR.out, HF.out, S2.out.b⟩
 ·rw [if_pos he]
  have hne : (ef != 0) = true := by simp [he]
  go_enter Tryz.func14, Tryz.ntmps14
  go_wp2_with fail
  refine (B0.out _ S0.out).mono ?_
  rintro e w1 ⟨rfl, hb⟩
  have S1 := Lib.hid (S0.out.next hb)
  clear hb c0 c1 c2 c3 lg
  go_wp2_with fail
  go_ret2
  exact ⟨none, 0, rfl, Rd.nil _ _ _ _, (by intro a e; cases e), S1.out.b⟩
end Go.Proofs.YtcbeefbefapicaaGreatDoor

namespace Go.Proofs.YtcbeefbefapicaaGreatDoor
open Go.RowKit
set_option maxRecDepth 100000
def icells (l : List Int) : List Value := l.map (Value.int .i64)
end Go.Proofs.YtcbeefbefapicaaGreatDoor

namespace Go.Proofs.YtcbeefbefapicaaGreatDoor
open Go.ChangeShapes Go.WideShapes Go.ChangeAt Go.RowKit Go.Deep Go.Joins
set_option maxRecDepth 100000
theorem Tryz.cellsStr : Tryz.prog.cellsOf 9 = 1 := by kernel_rfl
theorem Tryz.cellsSta : Tryz.prog.cellsOf 62 = 2 := by kernel_rfl
theorem Tryz.cellsPar : Tryz.prog.cellsOf 66 = 4 := by kernel_rfl
theorem Tryz.cellsFld : Tryz.prog.cellsOf 27 = 4 := by kernel_rfl
theorem Tryz.cellsCal : Tryz.prog.cellsOf 42 = 13 := by kernel_rfl
theorem Tryz.cellsU8 : Tryz.prog.cellsOf 5 = 1 := by kernel_rfl
theorem Tryz.cellsS1 : Tryz.prog.cellsOf 22 = 1 := by kernel_rfl
theorem Tryz.cellsS2 : Tryz.prog.cellsOf 23 = 1 := by kernel_rfl
theorem Tryz.cellsS3 : Tryz.prog.cellsOf 24 = 1 := by kernel_rfl
theorem Tryz.cellsS4 : Tryz.prog.cellsOf 25 = 1 := by kernel_rfl
section
variable {H : Type} {enc : TypeId × Value → H} {w : World} {base : Nat} {spare : Nat → Bool} {held : Bool} {b0 : Nat} {r : Reach}
theorem els_of {α : Type} [Inhabited α] {P : Program} {cell : α → List Value} {n : Nat} {t e : TypeId} {Q : α → Prop} (ht : P.underlying t = some (.slice e)) (hce : P.cellsOf e = n) (hc : ∀ a, (cell a).length = n) (hn : 0 < n)
  (he : ∀ fuel cs x, DataW.trod enc P w base spare held fuel e cs = some x → ∃ a, cs = cell a ∧ Q a)
  {fuel : Nat} {cs : List Value} {x : DataW H × List MemPlace} (hf : DataW.trod enc P w base spare held fuel t cs = some x) :
  ∃ (A : Option Addr) (c : Nat) (ys : List α), cs = [.slice A ys.length c] ∧ Rd w w.heap.size n A ys.length (ys.flatMap cell) ∧ ys.length ≤ 9223372036854775807 ∧ ys.length ≤ c ∧ ∀ y ∈ ys, Q y := by
 rcases open_slice ht hf with ⟨hcs, hx⟩ | ⟨a, len, cap, m, k, D, Pl, hcs, _, hl, hm, hmm, hx, hel⟩
 ·exact ⟨none, 0, [], hcs, Rd.nil _ _ _ _, by simp, by simp, by simp⟩
 ·have hlm : len ≤ m := by rw [hmm]; split <;> omega
  have each : ∀ i, i < len → ∃ x : α, (∀ j, j < n → w.cell? (a.add (i * n + j)) = (cell x)[j]?) ∧ Q x := by
   intro i hi
   obtain ⟨cs', h1, h2⟩ := hel i (by omega)
   rw [hce] at h1
   obtain ⟨_, hlen, hcell⟩ := World.cells?_some h1
   obtain ⟨x, rfl, hq⟩ := he _ _ _ h2
   refine ⟨x, fun j hj => ?_, hq⟩
   have := hcell j hj
   rwa [add_add] at this
  obtain ⟨V, hV⟩ := choose_lt each
  have hlen : ((List.range len).map V).length = len := by simp
  refine ⟨some a, cap, (List.range len).map V, by rw [hlen]; exact hcs, ⟨by rw [flat_length hc], fun h0 => ?_⟩, by unfold maxLen at hm; simp; omega, by rw [hlen]; exact hl, fun b hb => ?_⟩
  ·rw [hlen] at h0 ⊢
   obtain ⟨v0, hv0⟩ : ∃ v, (cell (V 0))[0]? = some v := by
    cases hg : (cell (V 0))[0]? with
    | none => rw [List.getElem?_eq_none_iff, hc] at hg; omega
    | some v => exact ⟨v, rfl⟩
   obtain ⟨b', off', hab, hb'⟩ := plain_of_cell (((hV 0 h0).1 0 hn).trans hv0)
   obtain ⟨b, off, s⟩ := a
   obtain ⟨hb, rfl⟩ : b < w.heap.size ∧ s = none := by
    simp only [Addr.add, Nat.zero_mul, Nat.add_zero, if_true, Addr.mk.injEq] at hab
    exact ⟨by omega, hab.2.2⟩
   refine ⟨b, off, rfl, hb, fun j hj => ?_⟩
   have hdiv : j / n < len := Nat.div_lt_of_lt_mul (by rwa [Nat.mul_comm])
   have hq := (hV (j / n) hdiv).1 (j % n) (Nat.mod_lt _ hn)
   have hr := flat_at hc ((List.range len).map V) (k := j / n) (by rw [hlen]; exact hdiv) (Nat.mod_lt j hn)
   have hjn : j / n * n + j % n = j := by rw [Nat.mul_comm]; exact Nat.div_add_mod j n
   rw [hjn] at hq hr
   rw [add_plain] at hq
   simp only [List.getElem_map, List.getElem_range] at hr
   exact hq.trans hr.symm
  ·obtain ⟨i, hi, rfl⟩ := List.mem_map.1 hb
   exact (hV i (List.mem_range.1 hi)).2
theorem trod_text {fuel : Nat} {cs : List Value} {x : DataW H × List MemPlace} (h : DataW.trod enc Tryz.prog w base spare held fuel 9 cs = some x) : ∃ s : Cs.Bs, cs = [.string ⟨s.toArray⟩] ∧ s.length ≤ 9223372036854775807 := by
 obtain ⟨⟨⟨l⟩⟩, h1, _, h2⟩ := DataW.trod_string Tryz.underlying9 h
 refine ⟨l, h1, ?_⟩
 have e : (⟨⟨l⟩⟩ : ByteArray).size = l.length := rfl
 unfold maxLen at h2
 omega
theorem trod_text1 {fuel : Nat} {cs : List Value} {x : DataW H × List MemPlace} (h : DataW.trod enc Tryz.prog w base spare held fuel 9 cs = some x) : ∃ s : Cs.Bs, cs = [sv s] ∧ s.length ≤ 9223372036854775807 := trod_text h
theorem trod_station {fuel : Nat} {cs : List Value} {x : DataW H × List MemPlace} (h : DataW.trod enc Tryz.prog w base spare held fuel 62 cs = some x) : ∃ v : Cs.Bs × Int, cs = scell v ∧ v.1.length ≤ 9223372036854775807 := by
  obtain ⟨y0, y1, n, rfl, hl, g0, g1⟩ := trod_struct2 Tryz.underlying62 h
  rw [Tryz.cellsSta] at hl
  match cs, hl with
  | [v0, v1], _ =>
    simp only [Tryz.cellsInt, Tryz.cellsStr, List.drop_zero, List.drop_succ_cons, List.take_succ_cons, List.take_zero] at g0 g1
    obtain ⟨a, e0, w0⟩ := trod_text g0
    obtain ⟨b, e1, _, w1⟩ := DataW.trod_int Tryz.underlying3 g1
    simp only [List.cons.injEq, and_true] at e0 e1
    subst e0; subst e1
    exact ⟨(a, b), rfl, w0⟩
theorem trod_parcel {fuel : Nat} {cs : List Value} {x : DataW H × List MemPlace} (h : DataW.trod enc Tryz.prog w base spare held fuel 66 cs = some x) : ∃ v : Dd.Pa, cs = pcell v ∧ v.name.length ≤ 9223372036854775807 := by
  obtain ⟨xs, n, _, rfl, hl, hlen, hf⟩ := DataW.trod_struct Tryz.underlying66 h
  rw [Tryz.cellsPar] at hl
  match xs, hlen with
  | [y0, y1, y2, y3], _ =>
    have f0 := hf 0 _ rfl
    have f1 := hf 1 _ rfl
    have f2 := hf 2 _ rfl
    have f3 := hf 3 _ rfl
    match cs, hl with
    | [v0, v1, v2, v3], _ =>
      simp only [Tryz.cellsInt, Tryz.cellsStr, List.drop_zero, List.drop_succ_cons, List.take_succ_cons, List.take_zero, List.getElem?_cons_zero, List.getElem?_cons_succ] at f0 f1 f2 f3
      obtain ⟨a, e0, w0⟩ := trod_text f0
      obtain ⟨b, e1, _, w1⟩ := DataW.trod_int Tryz.underlying3 f1
      obtain ⟨c, e2, _, w2⟩ := DataW.trod_int Tryz.underlying3 f2
      obtain ⟨d, e3, _, w3⟩ := DataW.trod_int Tryz.underlying3 f3
      cases e0; cases e1; cases e2; cases e3
      exact ⟨⟨a, b, c, d⟩, rfl, w0⟩
instance : Inhabited Dd.Pa := ⟨⟨[], 0, 0, 0⟩⟩
instance : Inhabited Dd.Ca := ⟨Dd.ca0⟩
theorem u8_wf {n : Int} (h : (Lit.int .u8 n).wf = true) : 0 ≤ n ∧ n ≤ 255 := by
 simp only [Lit.wf, Bool.and_eq_true, decide_eq_true_eq] at h
 have h1 : IntKind.u8.min = 0 := by decide
 have h2 : IntKind.u8.max = 255 := by decide
 omega
def CaWf (c : Dd.Ca) : Prop := (0 ≤ c.k ∧ c.k ≤ 255) ∧ wfI c.l ∧ wfI c.o ∧ wfI c.a ∧ wfI c.b ∧ wfI c.s ∧ wfI c.e
set_option maxHeartbeats 1000000 in
theorem trod_call {fuel : Nat} {cs : List Value} {x : DataW H × List MemPlace} (h : DataW.trod enc Tryz.prog w base spare held fuel 42 cs = some x) : ∃ c : Dd.Ca, cs = cacell c ∧ CaWf c := by
  obtain ⟨xs, n, _, rfl, hl, hlen, hf⟩ := DataW.trod_struct Tryz.underlying42 h
  rw [Tryz.cellsCal] at hl
  match xs, hlen with
  | [y0, y1, y2, y3, y4, y5, y6, y7], _ =>
    have f0 := hf 0 _ rfl
    have f1 := hf 1 _ rfl
    have f2 := hf 2 _ rfl
    have f3 := hf 3 _ rfl
    have f4 := hf 4 _ rfl
    have f5 := hf 5 _ rfl
    have f6 := hf 6 _ rfl
    have f7 := hf 7 _ rfl
    match cs, hl with
    | [v0, v1, v2, v3, v4, v5, v6, v7, v8, v9, v10, v11, v12], _ =>
      simp only [Tryz.cellsInt, Tryz.cellsU8, Tryz.cellsCo, List.drop_zero, List.drop_succ_cons, List.take_succ_cons, List.take_zero, List.getElem?_cons_zero, List.getElem?_cons_succ] at f0 f1 f2 f3 f4 f5 f6 f7
      obtain ⟨k, e0, _, w0⟩ := DataW.trod_int Tryz.underlying5 f0
      obtain ⟨l, e1, _, w1⟩ := DataW.trod_int Tryz.underlying3 f1
      obtain ⟨o, e2, _, w2⟩ := DataW.trod_int Tryz.underlying3 f2
      obtain ⟨a, e3, _, w3⟩ := DataW.trod_int Tryz.underlying3 f3
      obtain ⟨b, e4, _, w4⟩ := DataW.trod_int Tryz.underlying3 f4
      obtain ⟨s, e5, _, w5⟩ := DataW.trod_int Tryz.underlying3 f5
      obtain ⟨e, e6, _, w6⟩ := DataW.trod_int Tryz.underlying3 f6
      obtain ⟨c, e7, _⟩ := trod_course f7
      cases e0; cases e1; cases e2; cases e3; cases e4; cases e5; cases e6
      obtain ⟨c1, c2, c3, c4, c5, c6⟩ := c
      simp only [ccell, List.cons.injEq, and_true] at e7
      obtain ⟨rfl, rfl, rfl, rfl, rfl, rfl⟩ := e7
      exact ⟨⟨k, l, o, a, b, s, e, ⟨c1, c2, c3, c4, c5, c6⟩⟩, rfl, u8_wf w0, w1, w2, w3, w4, w5, w6⟩
theorem open_call {v : Value} {d : DataW H} {p : List MemPlace} (hv : Value.okWide Tryz.prog w r b0 42 v) (h : DataW.Trod enc Tryz.prog w base spare held 42 v d p) : ∃ c : Dd.Ca, v = caval c ∧ CaWf c := by
 obtain ⟨cs, rfl, hsz⟩ := okWide_struct Tryz.underlying42 hv
 obtain ⟨fuel, hf⟩ := h
 obtain ⟨c, hc, hw⟩ := trod_call hf
 refine ⟨c, ?_, hw⟩
 have : cs.toList = cacell c := hc
 obtain ⟨l⟩ := cs
 simp only at this
 subst this
 rfl
theorem open_field {v : Value} {d : DataW H} {p : List MemPlace} (hv : Value.okWide Tryz.prog w r b0 27 v) (h : DataW.Trod enc Tryz.prog w base spare held 27 v d p) :
    ∃ (u : Fv) (f : Dd.Fd), v = fval u f ∧ FRw w w.heap.size u f := by
  obtain ⟨cs, rfl, hsz⟩ := okWide_struct Tryz.underlying27 hv
  obtain ⟨fuel, hfu⟩ := h
  obtain ⟨xs, n, _, _, hl, hlen, hf⟩ := DataW.trod_struct Tryz.underlying27 hfu
  rw [Tryz.cellsFld] at hl
  obtain ⟨cs⟩ := cs
  have hl : cs.length = 4 := hl
  match xs, hlen with
  | [y0, y1, y2, y3], _ =>
    have f0 := hf 0 _ rfl
    have f1 := hf 1 _ rfl
    have f2 := hf 2 _ rfl
    have f3 := hf 3 _ rfl
    match cs, hl with
    | [v0, v1, v2, v3], _ =>
      simp only [Value.cells, Tryz.cellsS1, Tryz.cellsS2, Tryz.cellsS3, Tryz.cellsS4, List.drop_zero, List.drop_succ_cons, List.take_succ_cons, List.take_zero, List.getElem?_cons_zero, List.getElem?_cons_succ] at f0 f1 f2 f3
      obtain ⟨A1, c1, st, e0, r1, l1, k1, n1⟩ := els_of (cell := scell) (n := 2) (Q := fun v => v.1.length ≤ 9223372036854775807) Tryz.underlying22 Tryz.cellsSta (fun _ => rfl) (by decide) (fun fuel cs x hx => trod_station hx) f0
      obtain ⟨A2, c2, li, e1, r2, l2, k2, n2⟩ := els_of (cell := fun s => [sv s]) (n := 1) (Q := fun v => v.length ≤ 9223372036854775807) Tryz.underlying23 Tryz.cellsStr (fun _ => rfl) (by decide) (fun fuel cs x hx => trod_text1 hx) f1
      obtain ⟨A3, c3, pa, e2, r3, l3, k3, n3⟩ := els_of (cell := pcell) (n := 4) (Q := fun v => v.name.length ≤ 9223372036854775807) Tryz.underlying24 Tryz.cellsPar (fun _ => rfl) (by decide) (fun fuel cs x hx => trod_parcel hx) f2
      obtain ⟨A4, c4, va, e3, r4, l4, _, _⟩ := els_of (cell := vcell) (n := 2) (Q := fun _ => True) Tryz.underlying25 Tryz.cellsVar (fun _ => rfl) (by decide) (fun fuel cs x hx => trod_variation hx) f3
      cases e0; cases e1; cases e2; cases e3
      have hw : ∀ l : List Cs.Bs, l.flatMap (fun s => [sv s]) = wcells l := fun l => by
        induction l with
        | nil => rfl
        | cons a t ih => rw [List.flatMap_cons, ih]; rfl
      rw [hw] at r2
      exact ⟨⟨A1, c1, A2, c2, A3, c3, A4, c4⟩, ⟨st, li, pa, va⟩, rfl, ⟨r1, r2, r3, r4, k1, k2, k3, l1, l2, l3, l4, n1, n2, n3⟩⟩
end
end Go.Proofs.YtcbeefbefapicaaGreatDoor

namespace Go.Proofs.YtcbeefbefapicaaGreatDoor
open Go.ChangeShapes Go.WideShapes Go.ChangeAt Go.RowKit Go.Deep Go.Joins
set_option maxRecDepth 100000
section
variable {H : Type} {enc : TypeId × Value → H} {w : World} {base : Nat} {spare : Nat → Bool} {held : Bool} {b0 : Nat} {r : Reach}
theorem icells_flat (l : List Int) : l.flatMap (fun a => [Value.int .i64 a]) = icells l := by
 induction l with
 | nil => rfl
 | cons a t ih => rw [List.flatMap_cons, ih]; rfl
theorem open_nums {v : Value} {d : DataW H} {p : List MemPlace} (hv : Value.okWide Tryz.prog w r b0 43 v) (h : DataW.Trod enc Tryz.prog w base spare held 43 v d p) :
  ∃ (A : Option Addr) (c : Nat) (y : List Int), v = .slice A y.length c ∧ Rd w w.heap.size 1 A y.length (icells y) ∧ y.length ≤ 9223372036854775807 := by
 obtain ⟨a0, len, cap, rfl⟩ := okWide_slice Tryz.underlying43 hv
 obtain ⟨fuel, hf⟩ := h
 obtain ⟨A1, c1, y, e0, r1, l1, k1, _⟩ := els_of (cell := fun a : Int => [Value.int .i64 a]) (n := 1) (Q := fun _ => True) Tryz.underlying43 Tryz.cellsInt (fun _ => rfl) (by decide)
  (fun fuel cs x hx => by obtain ⟨a, e, _⟩ := DataW.trod_int Tryz.underlying3 hx; exact ⟨a, e, trivial⟩) hf
 rw [icells_flat] at r1
 simp only [Value.cells, List.cons.injEq, and_true, Value.slice.injEq] at e0
 obtain ⟨rfl, rfl, rfl⟩ := e0
 exact ⟨_, _, y, rfl, r1, l1⟩
end
end Go.Proofs.YtcbeefbefapicaaGreatDoor
