/-
  What the claim needs: contracts.
-/
import Derived.Test.YtccikcpcfdjobaaGreatDoorBs13
import Derived.Test.YtccikcpcfdjobaaGreatDoorBs07
set_option linter.unusedVariables false
set_option linter.unusedSimpArgs false
set_option maxHeartbeats 8000000
set_option maxRecDepth 100000
namespace Go.Proofs.YtccikcpcfdjobaaGreatDoor
section
open Go.RowKit
namespace Dd
theorem y60 : ∀ n p : Nat, natP (n + 1) p = natP n p ++ [⟨0, ((p + n : Nat) : Int), 100000, 0⟩, ⟨((p + n : Nat) : Int), 0, 0, 0⟩]
  | 0, p => by simp [natP]
  | n + 1, p => by
    rw [natP, y60 n (p + 1), natP, show p + 1 + n = p + (n + 1) by omega];rfl
theorem y61 (k l : Nat) : ∀ n s : Nat, natS k l (n + 1) s = natS k l n s ++ [⟨1 + ((l : Int) + 1) * k + ((s + n : Nat) : Int), 1 + (l : Int) * k + ((s + n : Nat) : Int), 0, 0⟩]
  | 0, s => by simp [natS]
  | n + 1, s => by
    rw [natS, y61 k l n (s + 1), natS, show s + 1 + n = s + (n + 1) by omega];rfl
theorem y5z (k : Nat) : ∀ n l : Nat, natL k (n + 1) l = natL k n l ++ natS k (l + n) k 0
  | 0, l => by simp [natL]
  | n + 1, l => by
    rw [natL, y5z k n (l + 1), natL, show l + 1 + n = l + (n + 1) by omega, List.append_assoc]
theorem y1x : ∀ n p : Nat, (natP n p).length = 2 * n
 | 0, p => rfl
 | n + 1, p => by rw [natP, List.length_cons, List.length_cons, y1x n (p + 1)]; omega
theorem y53 (k l : Nat) : ∀ n s : Nat, (natS k l n s).length = n
 | 0, s => rfl
 | n + 1, s => by rw [natS, List.length_cons, y53 k l n (s + 1)]
theorem y52 (k : Nat) : ∀ n l : Nat, (natL k n l).length = n * k
 | 0, l => by simp [natL]
 | n + 1, l => by rw [natL, List.length_append, y53, y52 k n (l + 1), Nat.succ_mul]; omega
end Dd
theorem y26 {P : Program} {ops : Array Oper} {rest : List Oper} {o : Oper} {a : Act} {Q : Exit -> Act -> World -> Prop} (hgd : o.guard = none) (s x : Operand) (t : TypeId)
  (ho : o.op = .call { callee := .builtin .append, args := #[s, x], argTypes := #[t, t] })
  (e : TypeId) (i : TypeInfo) (z : Value) (size bytes : Nat) (ht : P.underlying t = some (.slice e)) (hi : P.info? e = some i) (hz : i.zero = some z) (hsize : i.size = size) (hby : i.bytes = bytes) (hzs : z.cells.size = size) (hsz : 0 < size)
  (base : Nat) (v : Value) (n : Nat) (xs : List Value) (cs : Array Value) (m cap : Nat) (w : World) (hs : a.eval s = v) (hown : w.ownsRow base e size v n xs) (hx : a.eval x = .slice (some ⟨w.heap.size, 0, none⟩) m cap) (hl : cs.toList.length = m * size)
  (h1 : ∀ u ∈ cs.toList, u.oneCell' = true) (hm : 0 < m) (h63 : n + m <= maxLen) (hbytes : (n + m) * bytes <= 140737488355328) (hbase : base <= w.heap.size)
  (h : ∀ v' w', w'.ownsRow base e size v' (n + m) (xs ++ cs.toList) -> Below base w w' -> wpList P ops Q rest (a.put o.dst v') w') :
  wpList P ops Q (o :: rest) a (w.alloc (.cells cs e)) := by
 refine wpList_append_lies (w.alloc (.cells cs e)) hgd s x t ho base e i z size bytes ht hi hz hsize hby hzs hsz v n xs hs (hown.alloc _) ⟨w.heap.size, 0, none⟩ m cap cs.toList hx hl (World.news_of_block (cs := cs) (t := e) (fr := (0, 0)) (World.alloc_heap_new _ _)) h1 hm h63 hbytes (by simp; omega) (w.heap.size + 1) (by simp)
  fun g cap' w' h2 h3 h4 h5 => h _ w' h2 ?_
 have hb := (Below.refl base w).alloc hbase (.cells cs e);exact y0j hb (Nat.le_refl _) h3 (fun r e => (hown.lt r e).1) (by simp; omega)
theorem y70 {w w' : World} (h : Below w.heap.size w w') : w.grownBy w' none := ⟨h.os, h.tape, h.output, h.size, fun k hk _ => h.block k hk⟩
theorem y1E {w w' : World} {base e size : Nat} {v : Value} {n : Nat} {xs : List Value} (h : w.ownsRow base e size v n xs) (hb : Below w.heap.size w w') : w'.ownsRow base e size v n xs :=
 h.kept (y70 hb) (by rcases h : v.ownBlock with _ | g <;> simp)
theorem y2R (l : List Dd.Bd) : ∀ u ∈ bcells l, u.oneCell' = true := by
 intro u hu;unfold bcells at hu;simp only [List.mem_flatMap, bcell, List.mem_cons, List.not_mem_nil, or_false] at hu;obtain ⟨b, _, rfl | rfl | rfl | rfl⟩ := hu <;> rfl
theorem y0r : ∀ l : List Dd.Bd, (bcells l).length = l.length * 4
  | [] => rfl
  | b :: l => by
    have e : bcells (b :: l) = bcell b ++ bcells l := rfl;rw [e, List.length_append, y0r l, List.length_cons, Nat.succ_mul];simp [bcell];omega
theorem yBq {w : World} {g : Nat} {t : TypeId} {l : List Dd.Bd} (h : Bk w g t (bcells l).toArray) : Rd w w.heap.size 4 (some ⟨g, 0, none⟩) l.length (bcells l) := by
 refine ⟨y0r l, fun _ => ⟨g, 0, rfl, h.lt, fun j hj => ?_⟩⟩;rw [Nat.zero_add, h.cell j, List.getElem?_toArray]
theorem yCQ (w : World) (a b : Int) : Rd (w.alloc (.cells #[.int .i64 a, .int .i64 b, .int .i64 0, .int .i64 0] 78)) (w.alloc (.cells #[.int .i64 a, .int .i64 b, .int .i64 0, .int .i64 0] 78)).heap.size 4 (some ⟨w.heap.size, 0, none⟩) 1 (bcells [⟨a, b, 0, 0⟩]) :=
 yBq (l := [⟨a, b, 0, 0⟩]) (Bk.new w 78 #[.int .i64 a, .int .i64 b, .int .i64 0, .int .i64 0])
theorem yBA : (Tryz.prog.info? 78).map (fun i => (i.zero, i.size, i.bytes)) = some (some (.agg #[.int .i64 0, .int .i64 0, .int .i64 0, .int .i64 0]), 4, 32) := by kernel_rfl
theorem y4W (v : Fv) (f : Dd.Fd) (hn : f.st.length <= 100) (hm : f.li.length <= 100) (hm1 : 1 <= f.li.length) (w : World) :
  Calls Tryz.prog 72 #[fval v f] w fun e w' => ∃ A c, e = .returned (.slice A (Dd.nat f).length c) /\ Rd w' w'.heap.size 4 A (Dd.nat f).length (bcells (Dd.nat f)) /\ (∀ a, A = some a -> w.heap.size <= a.block) /\ Below w.heap.size w w' := by
 obtain ⟨i0, hi0, hz0, hz1, hz2⟩ := info_parts yBA;have hP := fun W => y1k v f (by omega) (by omega) W;have hpt := fun (l s : Int) (h0 : 0 <= l) (h1 : l <= 1000) (h2 : 0 <= s) (h3 : s <= 1000) W => y0f v f l s (by omega) h0 (by omega) h2 (by omega) W;have hN : Dd.ptsN f = 1 + f.li.length * f.st.length := rfl;have hN2 := Nat.mul_le_mul hm hn;obtain ⟨N, hNN⟩ := zE (Dd.ptsN f);rw [hNN] at hN;have hnat : Dd.nat f = Dd.natP (N - 1) 1 ++ Dd.natL f.st.length (f.li.length - 1) 0 := by unfold Dd.nat; rw [hNN]
 rw [hNN] at hP;simp only [y01] at hP hpt ⊢;have HP := jQ hP;have HPT := jQ hpt;have HNT := jQ hnat;have hN1 : 1 <= N := by omega
 have hN3 : N <= 10001 := by omega
 have KF := jQ (Bk.new w 27 #[.slice v.a1 f.st.length v.c1, .slice v.a2 f.li.length v.c2, .slice v.a3 f.pa.length v.c3, .slice v.a4 f.va.length v.c4]);have HB0 := jQ ((Below.refl w.heap.size w).alloc (Nat.le_refl _) (.cells #[.slice v.a1 f.st.length v.c1, .slice v.a2 f.li.length v.c2, .slice v.a3 f.pa.length v.c3, .slice v.a4 f.va.length v.c4] 27));clear hP hpt hNN hnat hN hN2;go_enter Tryz.func72, Tryz.ntmps72;go_wp2_with fail;go_loopw [3, 4] (fun V I wr => ∃ p : Nat, 1 <= p /\ p <= N /\ I = .int .i64 p /\ wr.ownsRow (w.heap.size + 1) 78 4 V (Dd.natP (p - 1) 1).length (bcells (Dd.natP (p - 1) 1)) /\ Below w.heap.size w wr /\
   Bk wr w.heap.size 27 #[.slice v.a1 f.st.length v.c1, .slice v.a2 f.li.length v.c2, .slice v.a3 f.pa.length v.c3, .slice v.a4 f.va.length v.c4]) (fun _ I _ => N - (intOf I).toNat)
 case atStart => exact ⟨1, Nat.le_refl _, hN1, rfl, World.ownsRow_nil _ _ _ _, HB0.o, KF.o⟩
 clear KF HB0;obtain ⟨p, hp1, hpN, rfl, hown, hB, hK⟩ := hrel;have c0 := (hK.cell 0).trans rfl;have c1 := (hK.cell 1).trans rfl;have c2 := (hK.cell 2).trans rfl;have c3 := (hK.cell 3).trans rfl;have lg := hK.lt;have HO := jQ hown;have HB := jQ hB;have HK := jQ hK;clear hown hB hK;by_cases hlt : p < N
 ·have d1 : decide ((p : Int) < (N : Int)) = true := decide_eq_true (by omega);go_wp2_with fail;refine (HP.o _).mono ?_;rintro e w1 ⟨rfl, hb⟩;have HB1 := jQ (HB.o.trans (hb.mono HB.o.size));have HK1 := jQ (HK.o.below hb HK.o.lt);have hown := y1E HO.o hb;have HBS := jQ (show w.heap.size + 1 <= w1.heap.size from Nat.le_trans (Nat.succ_le_of_lt HK.o.lt) hb.size);clear hb c0 c1 c2 c3 lg;have HO1 := jQ hown;have hlen := Dd.y1x (p - 1) 1;have hsn := Dd.y60 (p - 1) 1;rw [show p - 1 + 1 = p by omega, show 1 + (p - 1) = p by omega] at hsn;have hcl : bcells (Dd.natP p 1) = bcells (Dd.natP (p - 1) 1) ++ [.int .i64 0, .int .i64 p, .int .i64 100000, .int .i64 0, .int .i64 p, .int .i64 0, .int .i64 0, .int .i64 0] := by
   rw [hsn];unfold bcells;rw [List.flatMap_append];rfl
  have HCL := jQ hcl;have HL2 := jQ (show (Dd.natP p 1).length = (Dd.natP (p - 1) 1).length + 2 by rw [Dd.y1x, Dd.y1x]; omega);obtain ⟨q, hq⟩ := zE ((Dd.natP (p - 1) 1).length);rw [hq] at hown hlen HO1 HL2;have hbs := HB1.o.size;have hbw := HB.o.size;have HKL := jQ HK.o.lt;clear hsn hcl hq HO HK HB;go_wp2_with (at_builtin; refine y26 rfl (.tmp 13) (.tmp 18) 52 rfl 78 i0 _ 4 32 Tryz.underlying52 hi0 hz0 hz1 hz2 rfl (by omega) (w.heap.size + 1) u3 q _ _ 2 2 w1 rfl hown rfl rfl (y2R [⟨0, p, 100000, 0⟩, ⟨p, 0, 0, 0⟩]) (by omega) (by unfold maxLen; omega) (by omega) HBS.o ?_; intro v' W2 hv2 hb2);refine ⟨⟨p + 1, by omega, by omega, rfl, ?_, HB1.o.trans (hb2.mono (Nat.le_succ _)), HK1.o.below hb2 (Nat.lt_succ_self _)⟩, ?_⟩
  ·rw [Nat.add_sub_cancel, HL2.o, HCL.o];exact hv2
  show N - ((p : Int) + 1).toNat < N - ((p : Int)).toNat;omega
 have d1 : decide ((p : Int) < (N : Int)) = false := decide_eq_false (by omega);have hpe : p = N := by omega
 subst hpe;go_wp2_with fail;refine (HP.o _).mono ?_;rintro e w1 ⟨rfl, hb⟩;have HB1 := jQ (HB.o.trans (hb.mono HB.o.size));have HK1 := jQ (HK.o.below hb HK.o.lt);have HO1 := jQ (y1E HO.o hb);clear hb c0 c1 c2 c3 lg HB HK HO HP;have c0 := (HK1.o.cell 0).trans rfl;have c1 := (HK1.o.cell 1).trans rfl;have c2 := (HK1.o.cell 2).trans rfl;have c3 := (HK1.o.cell 3).trans rfl;have lg := HK1.o.lt;go_wp2_with fail;clear c0 c1 c2 c3 lg;go_loopw [3, 24] (fun V I wr => ∃ l : Nat, l <= f.li.length - 1 /\ I = .int .i64 l /\ wr.ownsRow (w.heap.size + 1) 78 4 V ((Dd.natP (p - 1) 1).length + (Dd.natL f.st.length l 0).length) (bcells (Dd.natP (p - 1) 1) ++ bcells (Dd.natL f.st.length l 0)) /\ Below w.heap.size w wr /\
   Bk wr w.heap.size 27 #[.slice v.a1 f.st.length v.c1, .slice v.a2 f.li.length v.c2, .slice v.a3 f.pa.length v.c3, .slice v.a4 f.va.length v.c4]) (fun _ I _ => f.li.length - 1 - (intOf I).toNat)
 case atStart => exact ⟨0, Nat.zero_le _, rfl, (by simpa [Dd.natL, bcells] using HO1.o), HB1.o, HK1.o⟩
 clear HK1 HB1 HO1;obtain ⟨l, hl, rfl, hown, hB, hK⟩ := hrel;have c0 := (hK.cell 0).trans rfl;have c1 := (hK.cell 1).trans rfl;have c2 := (hK.cell 2).trans rfl;have c3 := (hK.cell 3).trans rfl;have lg := hK.lt;have HO := jQ hown;have HB := jQ hB;have HK := jQ hK;clear hown hB hK;by_cases hlt : l < f.li.length - 1
 ·have d1 : decide ((l : Int) < (f.li.length : Int) - 1) = true := decide_eq_true (by omega);go_wp2_with fail;clear c0 c1 c2 c3 lg d1;go_loopw [3, 30] (fun V I wr => ∃ j : Nat, j <= f.st.length /\ I = .int .i64 j /\ wr.ownsRow (w.heap.size + 1) 78 4 V ((Dd.natP (p - 1) 1).length + (Dd.natL f.st.length l 0).length + j) (bcells (Dd.natP (p - 1) 1) ++ bcells (Dd.natL f.st.length l 0) ++ bcells (Dd.natS f.st.length l j 0)) /\ Below w.heap.size w wr /\
    Bk wr w.heap.size 27 #[.slice v.a1 f.st.length v.c1, .slice v.a2 f.li.length v.c2, .slice v.a3 f.pa.length v.c3, .slice v.a4 f.va.length v.c4]) (fun _ I _ => f.st.length - (intOf I).toNat)
  case atStart => exact ⟨0, Nat.zero_le _, rfl, (by simpa [Dd.natS, bcells] using HO.o), HB.o, HK.o⟩
  clear HK HB HO;obtain ⟨j, hj, rfl, hown, hB, hK⟩ := hrel;have c0 := (hK.cell 0).trans rfl;have c1 := (hK.cell 1).trans rfl;have c2 := (hK.cell 2).trans rfl;have c3 := (hK.cell 3).trans rfl;have lg := hK.lt;have HO := jQ hown;have HB := jQ hB;have HK := jQ hK;clear hown hB hK;by_cases hjk : j < f.st.length
  ·have d1 : decide ((j : Int) < (f.st.length : Int)) = true := decide_eq_true (by omega);go_wp2_with fail;have HSC := jQ fun (W : World) (hk : Bk W w.heap.size 27 #[.slice v.a1 f.st.length v.c1, .slice v.a2 f.li.length v.c2, .slice v.a3 f.pa.length v.c3, .slice v.a4 f.va.length v.c4]) => (show (W.cell? ⟨w.heap.size, 0, none⟩ = some (.slice v.a1 f.st.length v.c1) /\ W.cell? ⟨w.heap.size, 1, none⟩ = some (.slice v.a2 f.li.length v.c2)) /\ (W.cell? ⟨w.heap.size, 2, none⟩ = some (.slice v.a3 f.pa.length v.c3) /\ W.cell? ⟨w.heap.size, 3, none⟩ = some (.slice v.a4 f.va.length v.c4)) from
    ⟨⟨(hk.cell 0).trans rfl, (hk.cell 1).trans rfl⟩, (hk.cell 2).trans rfl, (hk.cell 3).trans rfl⟩)
   have HSB := jQ fun (W : World) (hb : Below wr.heap.size wr W) => HSC.o W (HK.o.below hb HK.o.lt);have hwl : IntKind.i64.wrap ((l : Int) + 1) = (l : Int) + 1 := IntWalk.i64_in _ (by omega);obtain ⟨Q, hQ⟩ := zE ((Dd.natP (p - 1) 1).length + (Dd.natL f.st.length l 0).length + j);obtain ⟨X, hX⟩ := zE (bcells (Dd.natP (p - 1) 1) ++ bcells (Dd.natL f.st.length l 0) ++ bcells (Dd.natS f.st.length l j 0));have hO := HO.o;rw [hQ, hX] at hO;have HO1 := jQ hO;have HQ := jQ hQ;have HX := jQ hX;have hQm : Q <= 1000000 := by
    rw [<- hQ, Dd.y1x, Dd.y52];have := Nat.mul_le_mul (show l <= 100 by omega) hn;omega
   have HKL := jQ HK.o.lt;have hbD : Below wr.heap.size wr wr.drew := (Below.refl _ _).drew;clear hO hQ hX HO;go_region_held3 (fun V => (V.cell? ⟨w.heap.size, 0, none⟩ = some (.slice v.a1 f.st.length v.c1) /\ V.cell? ⟨w.heap.size, 1, none⟩ = some (.slice v.a2 f.li.length v.c2)) /\ (V.cell? ⟨w.heap.size, 2, none⟩ = some (.slice v.a3 f.pa.length v.c3) /\ V.cell? ⟨w.heap.size, 3, none⟩ = some (.slice v.a4 f.va.length v.c4)))
    (first
     | go_keep
     | ((try dsimp only); first | (with_reducible exact g0) | (with_reducible exact g1) | (with_reducible exact g2) | (with_reducible exact g3)))
    (first
     | (go_at_call 45; refine (HPT.o _ _ (by omega) (by omega) (by omega) (by omega) _).mono ?_; first | (rintro e w3 ⟨rfl, hb3⟩; have hbF : Below wr.heap.size wr w3 := hbE.trans (hb3.mono hbE.size); obtain ⟨⟨g0, g1⟩, g2, g3⟩ := HSB.o _ hbF; have hown3 := jQ ((y1E HO1.o hbF).alloc (.cells #[.int .i64 (Dd.pt f ((l : Int) + 1) j), .int .i64 (Dd.pt f l j), .int .i64 0, .int .i64 0] 78)); have hrd3 := jQ (yCQ w3 (Dd.pt f ((l : Int) + 1) j) (Dd.pt f l j))) | (rintro e w2 ⟨rfl, hb2⟩; have hbE : Below wr.heap.size wr w2 := hbD.trans (hb2.mono hbD.size); obtain ⟨⟨e0, e1⟩, e2, e3⟩ := HSB.o _ hbE))
     | (refine y1B rfl (.tmp 33) (.tmp 44) 52 rfl (w.heap.size + 1) 78 i0 _ 4 32 Tryz.underlying52 hi0 hz0 hz1 hz2 rfl (by omega) u3 Q X (by rfl) hown3.o (some ⟨w3.heap.size, 0, none⟩) 1 1 _ _ (by rfl) hrd3.o (y2R _) (by unfold maxLen; omega) (by omega) (Nat.le_trans HKL.o (Nat.le_trans hbF.size (by simp))) ?_; intro v4 W4 hown4 hg4 hat4; have hb4 : Below (w.heap.size + 1) wr W4 := y0j ((hbF.mono HKL.o).alloc (Nat.le_trans HKL.o hbF.size) _) (Nat.le_refl _) hg4 (fun r e => (hown3.o.lt r e).1) (Nat.le_trans HKL.o (Nat.le_trans hbF.size (by simp))); obtain ⟨⟨h0, h1⟩, h2, h3⟩ := HSC.o W4 (HK.o.below hb4 (Nat.lt_succ_self _))))
   all_goals
    have HB4 := jQ (HB.o.trans (hb4.mono (Nat.le_succ _)));have HK4 := jQ (HK.o.below hb4 (Nat.lt_succ_self _));have HO4 := jQ hown4;clear h0 h1 h2 h3 hb4 hown4 hg4 hat4;go_wp2_with fail;refine ⟨⟨j + 1, by omega, rfl, ?_, HB4.o, HK4.o⟩, ?_⟩
    ·rw [Dd.y61, Nat.zero_add, <- Nat.add_assoc, HQ.o, show bcells (Dd.natS f.st.length l j 0 ++ [⟨1 + ((l : Int) + 1) * f.st.length + (j : Int), 1 + (l : Int) * f.st.length + (j : Int), 0, 0⟩]) = bcells (Dd.natS f.st.length l j 0) ++ bcells [⟨1 + ((l : Int) + 1) * f.st.length + (j : Int), 1 + (l : Int) * f.st.length + (j : Int), 0, 0⟩] by unfold bcells; rw [List.flatMap_append], <- List.append_assoc, HX.o];exact HO4.o
    show f.st.length - ((j : Int) + 1).toNat < f.st.length - ((j : Int)).toNat;omega
  have d1 : decide ((j : Int) < (f.st.length : Int)) = false := decide_eq_false (by omega);have hje : j = f.st.length := by omega
  subst hje;clear c0 c1 c2 c3 lg;go_wp2_with fail;refine ⟨⟨l + 1, by omega, rfl, ?_, HB.o, HK.o⟩, ?_⟩
  ·rw [Dd.y5z, Nat.zero_add, List.length_append, Dd.y53, show bcells (Dd.natL f.st.length l 0 ++ Dd.natS f.st.length l f.st.length 0) = bcells (Dd.natL f.st.length l 0) ++ bcells (Dd.natS f.st.length l f.st.length 0) by unfold bcells; rw [List.flatMap_append], <- List.append_assoc, <- Nat.add_assoc];exact HO.o
  show f.li.length - 1 - ((l : Int) + 1).toNat < f.li.length - 1 - ((l : Int)).toNat;omega
 have d1 : decide ((l : Int) < (f.li.length : Int) - 1) = false := decide_eq_false (by omega);have hle : l = f.li.length - 1 := by omega
 have HE := jQ hle;clear hle c0 c1 c2 c3 lg;have hq : (Dd.natP (p - 1) 1).length + (Dd.natL f.st.length l 0).length = (Dd.nat f).length := by rw [HNT.o, List.length_append, HE.o]
 have hcells : bcells (Dd.natP (p - 1) 1) ++ bcells (Dd.natL f.st.length l 0) = bcells (Dd.nat f) := by
  rw [HNT.o, HE.o];unfold bcells;rw [List.flatMap_append]
 have hO := HO.o;rw [hq, hcells] at hO;obtain ⟨A', c', rfl, hrd, hfar⟩ := y0e hO (y0r _);have HR := jQ hrd;have HF := jQ hfar;clear hO hq hcells hrd hfar HO;go_wp2_with fail;go_ret;exact ⟨A', c', rfl, HR.o, fun a e => Nat.le_of_succ_le (HF.o a e), HB.o⟩
end

section
namespace Dd
theorem y7v : ∀ (l : List Int) (a : Int), upA a l = true ↔ ∀ i (h : i < l.length), (a :: l)[i]'(by simp; omega) < l[i]
  | [], a => by simp [upA]
  | b :: r, a => by
    rw [upA, Bool.and_eq_true, decide_eq_true_eq, y7v r b];constructor
    · rintro ⟨h1, h2⟩ i h
      cases i with
      | zero => exact h1
      | succ i => exact h2 i (by simpa using h)
    intro h;exact ⟨h 0 (by simp), fun i hi => h (i + 1) (by simpa using hi)⟩
theorem yBR (l : List Int) : upF l = true ↔ ∀ i (h : i + 1 < l.length), l[i] < l[i + 1] := by
  cases l with
  | nil => simp [upF]
  | cons a r =>
    rw [upF, y7v];constructor
    · intro h i hi
      exact h i (by simpa using hi)
    intro h i hi;exact h i (by simpa using hi)
theorem y3Q : ∀ (l pre : List Pa), clearA pre l = true ↔ ∀ i (h : i < l.length), l[i].west < l[i].east /\ ∀ q ∈ pre ++ l.take i, hits l[i] q = false
  | [], pre => by simp [clearA]
  | p :: r, pre => by
    rw [clearA, Bool.and_eq_true, Bool.and_eq_true, decide_eq_true_eq, y3Q r (pre ++ [p])];constructor
    · rintro ⟨⟨h1, h2⟩, h3⟩ i hi
      cases i with
      | zero =>
        refine ⟨h1, fun q hq => ?_⟩;simp only [List.take_zero, List.append_nil] at hq;simp only [Bool.not_eq_true', List.any_eq_false] at h2;have := h2 q hq;simpa using this
      | succ i =>
        obtain ⟨a, b⟩ := h3 i (by simpa using hi);refine ⟨a, fun q hq => b q ?_⟩;simpa [List.append_assoc] using hq
    intro h;refine ⟨⟨(h 0 (by simp)).1, ?_⟩, fun i hi => ?_⟩
    · simp only [Bool.not_eq_true', List.any_eq_false]
      intro q hq;have := (h 0 (by simp)).2 q (by simpa using hq);simpa using this
    obtain ⟨a, b⟩ := h (i + 1) (by simpa using hi);refine ⟨a, fun q hq => b q ?_⟩;simpa [List.append_assoc] using hq
theorem y90 (l : List Pa) : clearA [] l = true ↔ ∀ i (h : i < l.length), l[i].west < l[i].east /\ ∀ j (hj : j < l.length), j < i -> hits l[i] l[j] = false := by
 rw [y3Q];constructor
 ·intro h i hi;obtain ⟨a, b⟩ := h i hi;refine ⟨a, fun j hj hji => b _ ?_⟩;rw [List.nil_append];exact List.mem_iff_getElem.2 ⟨j, by simp; omega, by simp⟩
 intro h i hi;obtain ⟨a, b⟩ := h i hi;refine ⟨a, fun q hq => ?_⟩;rw [List.nil_append] at hq;obtain ⟨j, hj, rfl⟩ := List.mem_iff_getElem.1 hq;have hj2 : j < i /\ j < l.length := by simp at hj; omega
 simp only [List.getElem_take];exact b j hj2.2 hj2.1
theorem y6J (g : Bd -> Bool) : ∀ n p : Nat, (natP n p).all g = true ↔ ∀ j, j < n -> g ⟨0, ((p + j : Nat) : Int), 100000, 0⟩ = true /\ g ⟨((p + j : Nat) : Int), 0, 0, 0⟩ = true
  | 0, p => by simp [natP]
  | n + 1, p => by
    rw [natP, List.all_cons, List.all_cons, Bool.and_eq_true, Bool.and_eq_true, y6J g n (p + 1)];constructor
    · rintro ⟨h1, h2, h3⟩ j hj
      cases j with
      | zero => exact ⟨h1, h2⟩
      | succ j =>
        have := h3 j (by omega);rw [show p + 1 + j = p + (j + 1) by omega] at this;exact this
    intro h;refine ⟨(h 0 (by omega)).1, (h 0 (by omega)).2, fun j hj => ?_⟩;have := h (j + 1) (by omega);rw [show p + (j + 1) = p + 1 + j by omega] at this;exact this
theorem y6K (g : Bd -> Bool) (k l : Nat) : ∀ n s : Nat, (natS k l n s).all g = true ↔ ∀ j, j < n -> g ⟨1 + ((l : Int) + 1) * k + ((s + j : Nat) : Int), 1 + (l : Int) * k + ((s + j : Nat) : Int), 0, 0⟩ = true
  | 0, s => by simp [natS]
  | n + 1, s => by
    rw [natS, List.all_cons, Bool.and_eq_true, y6K g k l n (s + 1)];constructor
    · rintro ⟨h1, h3⟩ j hj
      cases j with
      | zero => exact h1
      | succ j =>
        have := h3 j (by omega);rw [show s + 1 + j = s + (j + 1) by omega] at this;exact this
    intro h;refine ⟨h 0 (by omega), fun j hj => ?_⟩;have := h (j + 1) (by omega);rw [show s + (j + 1) = s + 1 + j by omega] at this;exact this
theorem y6H (g : Bd -> Bool) (k : Nat) : ∀ n l : Nat, (natL k n l).all g = true ↔ ∀ j, j < n -> ∀ s, s < k -> g ⟨1 + (((l + j : Nat) : Int) + 1) * k + (s : Int), 1 + ((l + j : Nat) : Int) * k + (s : Int), 0, 0⟩ = true
  | 0, l => by simp [natL]
  | n + 1, l => by
    rw [natL, List.all_append, Bool.and_eq_true, y6K, y6H g k n (l + 1)];constructor
    · rintro ⟨h1, h3⟩ j hj s hs
      cases j with
      | zero =>
        have := h1 s hs;rw [Nat.zero_add] at this;exact this
      | succ j =>
        have := h3 j (by omega) s hs;rw [show l + 1 + j = l + (j + 1) by omega] at this;exact this
    intro h;refine ⟨fun s hs => ?_, fun j hj s hs => ?_⟩
    · have := h 0 (by omega) s hs
      rw [Nat.zero_add];exact this
    have := h (j + 1) (by omega) s hs;rw [show l + (j + 1) = l + 1 + j by omega] at this;exact this
def qcorOk (f : Fd) (y : List Int) (l s : Nat) : Bool := decide (0 <= at_ y (1 + (l : Int) * f.st.length + s) /\ at_ y (1 + (l : Int) * f.st.length + s) <= 100000) && (decide (l = 0) || decide (at_ y (1 + ((l : Int) - 1) * f.st.length + s) <= at_ y (1 + (l : Int) * f.st.length + s)))
theorem y2a {m n l s : Nat} (hl : l < m) (hs : s < n) : l * n + s < m * n := by
 have : (l + 1) * n <= m * n := Nat.mul_le_mul_right n hl;rw [Nat.succ_mul] at this;omega
theorem yBP {f : Fd} (hf : fieldE f = 0) {y : List Int} (hlen : y.length = ptsN f) (hy0 : at_ y 0 = 0) : drw f y = true ↔ ∀ l, l < f.li.length -> ∀ s, s < f.st.length -> qcorOk f y l s = true := by
 obtain ⟨hm, hn, -⟩ := y0G hf;have hk : ∀ (a b : Nat) (m : Int), a < y.length -> b < y.length -> (keepsI y ⟨(a : Int), (b : Int), m, 0⟩ = true ↔ at_ y b - at_ y a <= m) := fun a b m ha hb => by
  unfold keepsI keepsB;simp only [Bool.and_eq_true, decide_eq_true_eq];constructor
  ·exact fun h => h.2
  exact fun h => ⟨⟨⟨by omega, by omega⟩, by omega, by omega⟩, h⟩
 have hp0 : 0 < y.length := by rw [hlen]; unfold ptsN; omega
 rw [y9i hf, decide_eq_true hlen, decide_eq_true hy0, Bool.true_and, Bool.true_and];unfold nat;rw [List.all_append, Bool.and_eq_true, y6J, y6H];have hN : ptsN f - 1 = f.li.length * f.st.length := by unfold ptsN; omega
 rw [hN];constructor
 ·rintro ⟨h1, h2⟩ l hl s hs;have hlt := y2a hl hs;have e : (1 : Int) + (l : Int) * f.st.length + s = ((1 + (l * f.st.length + s) : Nat) : Int) := by push_cast; omega
  obtain ⟨a1, a2⟩ := h1 (l * f.st.length + s) hlt;have hb : 1 + (l * f.st.length + s) < y.length := by rw [hlen]; unfold ptsN; omega
  have a1' := (hk 0 (1 + (l * f.st.length + s)) 100000 hp0 hb).1 a1;have a2' := (hk (1 + (l * f.st.length + s)) 0 0 hb hp0).1 a2;unfold qcorOk;rw [e];have h9 : at_ y ((0 : Nat) : Int) = 0 := hy0;rw [Bool.and_eq_true, Bool.or_eq_true, decide_eq_true_eq, decide_eq_true_eq, decide_eq_true_eq];refine ⟨by omega, ?_⟩;rcases Nat.eq_zero_or_pos l with h0 | h0
  ·exact Or.inl h0
  right;have a3 := h2 (l - 1) (by omega) s hs;rw [Nat.zero_add, show ((l - 1 : Nat) : Int) + 1 = (l : Int) by omega] at a3;have e2 : (1 : Int) + ((l - 1 : Nat) : Int) * f.st.length + s = ((1 + ((l - 1) * f.st.length + s) : Nat) : Int) := by push_cast; omega
  have hb2 : 1 + ((l - 1) * f.st.length + s) < y.length := by rw [hlen]; unfold ptsN; have := y2a (show l - 1 < f.li.length by omega) hs; omega
  rw [e, e2] at a3;have := (hk _ _ 0 hb hb2).1 a3;rw [show (1 : Int) + ((l : Int) - 1) * f.st.length + s = ((1 + ((l - 1) * f.st.length + s) : Nat) : Int) by rw [<- e2]; rw [show ((l - 1 : Nat) : Int) = (l : Int) - 1 by omega]];omega
 intro h;refine ⟨fun j hj => ?_, fun j hj s hs => ?_⟩
 ·have hn0 : 0 < f.st.length := by omega
  have hl : j / f.st.length < f.li.length := Nat.div_lt_of_lt_mul (by rw [Nat.mul_comm]; exact hj);have hs : j % f.st.length < f.st.length := Nat.mod_lt _ hn0;have hc := h _ hl _ hs;have hjj : j / f.st.length * f.st.length + j % f.st.length = j := by rw [Nat.mul_comm]; exact Nat.div_add_mod j _
  unfold qcorOk at hc;rw [Bool.and_eq_true, decide_eq_true_eq] at hc;have e : (1 : Int) + ((j / f.st.length : Nat) : Int) * f.st.length + ((j % f.st.length : Nat) : Int) = ((1 + j : Nat) : Int) := by
   have : ((j / f.st.length * f.st.length + j % f.st.length : Nat) : Int) = (j : Int) := by rw [hjj]
   push_cast at this ⊢
   omega
  rw [e] at hc;have hb : 1 + j < y.length := by rw [hlen]; unfold ptsN; omega
  exact ⟨(hk 0 (1 + j) 100000 hp0 hb).2 (by have := hc.1.2; have h9 : at_ y ((0 : Nat) : Int) = 0 := hy0; omega), (hk (1 + j) 0 0 hb hp0).2 (by have := hc.1.1; have h9 : at_ y ((0 : Nat) : Int) = 0 := hy0; omega)⟩
 have hc := h (j + 1) (by omega) s hs;unfold qcorOk at hc;rw [Bool.and_eq_true, Bool.or_eq_true, decide_eq_true_eq, decide_eq_true_eq, decide_eq_true_eq] at hc;have h3 : at_ y (1 + (((j + 1 : Nat) : Int) - 1) * f.st.length + s) <= at_ y (1 + ((j + 1 : Nat) : Int) * f.st.length + s) := by
  rcases hc.2 with h | h
  ·omega
  exact h
 rw [Nat.zero_add];have e1 : (1 : Int) + ((j : Int) + 1) * f.st.length + s = ((1 + ((j + 1) * f.st.length + s) : Nat) : Int) := by push_cast; omega
 have e2 : (1 : Int) + (j : Int) * f.st.length + s = ((1 + (j * f.st.length + s) : Nat) : Int) := by push_cast; omega
 rw [show ((j + 1 : Nat) : Int) - 1 = (j : Int) by omega, show ((j + 1 : Nat) : Int) = (j : Int) + 1 by omega, e1, e2] at h3;rw [e1, e2];have b1 := y2a (show j + 1 < f.li.length by omega) hs;have b2 := y2a (show j < f.li.length by omega) hs;exact (hk _ _ 0 (by rw [hlen]; unfold ptsN; omega) (by rw [hlen]; unfold ptsN; omega)).2 (by omega)
end Dd
end

section
open Go.RowKit
theorem y9x : (Tryz.prog.info? 9).map (fun i => (i.zero, i.size, i.bytes)) = some (some (.string ⟨#[]⟩), 1, 16) := by kernel_rfl
theorem y1G (l : List Cs.Bs) : (wcells l).length = l.length * 1 := by unfold wcells; simp
theorem y3b (l : List Cs.Bs) (s : Cs.Bs) : wcells (l ++ [s]) = wcells l ++ [.string ⟨s.toArray⟩] := by unfold wcells; simp [sv]
theorem y9A (l : List Cs.Bs) : ∀ u ∈ wcells l, u.oneCell' = true := by
 intro u hu;unfold wcells at hu;obtain ⟨x, _, rfl⟩ := List.mem_map.1 hu;rfl
def Dd.namesK (f : Dd.Fd) (k : Int) : List Cs.Bs := if k = 0 then f.st.map (·.1) else if k = 1 then f.li else f.pa.map (·.name)
def NmR (w : World) (L : List Cs.Bs) (e : Ending) (w' : World) : Prop := ∃ A c, e = .returned (.slice A L.length c) /\ Rd w' w'.heap.size 1 A L.length (wcells L) /\ Below w.heap.size w w'
theorem yCT (v : Fv) (f : Dd.Fd) (L : List Cs.Bs) (w : World) (hF : FRd w w.heap.size v f) (hl : f.st.length <= 1000) (hLl : L.length = f.st.length) (hLg : ∀ k (h : k < f.st.length) (h2 : k < L.length), L[k] = f.st[k].1) :
  Calls Tryz.prog 86 #[fval v f, .int .i64 0] w (NmR w L) := by
 obtain ⟨i0, hi0, hz0, hz1, hz2⟩ := info_parts y9x;have HF := jQ hF;have HLG := jQ hLg;have HLL := jQ hLl;have HB0 := jQ ((Below.refl w.heap.size w).alloc (Nat.le_refl _) (.cells #[.slice v.a1 f.st.length v.c1, .slice v.a2 f.li.length v.c2, .slice v.a3 f.pa.length v.c3, .slice v.a4 f.va.length v.c4] 27));have KF := jQ (Bk.new w 27 #[.slice v.a1 f.st.length v.c1, .slice v.a2 f.li.length v.c2, .slice v.a3 f.pa.length v.c3, .slice v.a4 f.va.length v.c4]);rw [y01];clear hF hLl hLg;go_enter Tryz.func86, Tryz.ntmps86;go_wp2_with fail;go_loopw [5, 6] (fun V I wr => ∃ k : Nat, k <= f.st.length /\ I = .int .i64 k /\ wr.ownsRow (w.heap.size + 1) 9 1 V k (wcells (L.take k)) /\ Below w.heap.size w wr /\ Bk wr w.heap.size 27 #[.slice v.a1 f.st.length v.c1, .slice v.a2 f.li.length v.c2, .slice v.a3 f.pa.length v.c3, .slice v.a4 f.va.length v.c4]) (fun _ I _ => f.st.length - (intOf I).toNat)
 case atStart => exact ⟨0, Nat.zero_le _, rfl, World.ownsRow_nil _ _ _ _, HB0.o, KF.o⟩
 clear KF HB0;obtain ⟨k, hk, rfl, hown, hB, hK⟩ := hrel;have c0 := (hK.cell 0).trans rfl;have c1 := (hK.cell 1).trans rfl;have c2 := (hK.cell 2).trans rfl;have c3 := (hK.cell 3).trans rfl;have lg := hK.lt;have HO := jQ hown;have HB := jQ hB;have HK := jQ hK;clear hown hB hK;by_cases hlt : k < f.st.length
 ·obtain ⟨b, off, hA1, hb, e0, e1⟩ := (HF.o.below HB.o (Nat.le_refl _)).st.station hlt;have hb2 : b < wr.heap.size := Nat.lt_of_lt_of_le hb HB.o.size;have htk : wcells (L.take (k + 1)) = wcells (L.take k) ++ [.string ⟨f.st[k].1.toArray⟩] := by
   rw [List.take_succ_eq_append_getElem (by rw [HLL.o]; exact hlt), y3b, HLG.o k hlt (by rw [HLL.o]; exact hlt)]
  obtain ⟨x, hx⟩ := zE (f.st[k]);rw [hx] at e0 e1 htk;have HTK := jQ htk;have hown := HO.o;have f9 := c0;rw [hA1] at f9;clear htk hx hA1 c0;go_wp2_with (at_builtin; refine y26 rfl (.tmp 17) (.tmp 24) 23 rfl 9 i0 _ 1 16 Tryz.underlying23 hi0 hz0 hz1 hz2 rfl (by omega) (w.heap.size + 1) u5 k _ _ 1 1 wr rfl hown rfl rfl (by intro u hu; simp only [List.mem_cons, List.not_mem_nil, or_false] at hu; subst hu; rfl) (by omega) (by unfold maxLen; omega) (by omega) lg ?_; intro v' W2 hv2 hb9);refine ⟨⟨k + 1, by omega, by go_num, ?_, HB.o.trans (hb9.mono (Nat.le_succ _)), HK.o.below hb9 (Nat.lt_succ_self _)⟩, ?_⟩
  ·rw [HTK.o];exact hv2
  show f.st.length - ((k : Int) + 1).toNat < f.st.length - ((k : Int)).toNat;omega
 obtain rfl : k = f.st.length := by omega
 have hok := HO.o;rw [show L.take f.st.length = L from by rw [<- HLL.o, List.take_length]] at hok;obtain ⟨A', c', rfl, hrd, -⟩ := y0e hok (by rw [y1G, HLL.o]);have HRD := jQ hrd;clear hok hrd HO;go_wp2_with fail;go_ret;exact ⟨A', c', by rw [HLL.o]; rfl, by rw [HLL.o]; exact HRD.o, HB.o⟩
theorem yCV (v : Fv) (f : Dd.Fd) (L : List Cs.Bs) (w : World) (hF : FRd w w.heap.size v f) (hl : f.pa.length <= 1000) (hLl : L.length = f.pa.length) (hLg : ∀ k (h : k < f.pa.length) (h2 : k < L.length), L[k] = f.pa[k].name) :
  Calls Tryz.prog 86 #[fval v f, .int .i64 2] w (NmR w L) := by
 obtain ⟨i0, hi0, hz0, hz1, hz2⟩ := info_parts y9x;have HF := jQ hF;have HLG := jQ hLg;have HLL := jQ hLl;have HB0 := jQ ((Below.refl w.heap.size w).alloc (Nat.le_refl _) (.cells #[.slice v.a1 f.st.length v.c1, .slice v.a2 f.li.length v.c2, .slice v.a3 f.pa.length v.c3, .slice v.a4 f.va.length v.c4] 27));have KF := jQ (Bk.new w 27 #[.slice v.a1 f.st.length v.c1, .slice v.a2 f.li.length v.c2, .slice v.a3 f.pa.length v.c3, .slice v.a4 f.va.length v.c4]);rw [y01];clear hF hLl hLg;go_enter Tryz.func86, Tryz.ntmps86;go_wp2_with fail;go_loopw [5, 7] (fun V I wr => ∃ k : Nat, k <= f.pa.length /\ I = .int .i64 k /\ wr.ownsRow (w.heap.size + 1) 9 1 V k (wcells (L.take k)) /\ Below w.heap.size w wr /\ Bk wr w.heap.size 27 #[.slice v.a1 f.st.length v.c1, .slice v.a2 f.li.length v.c2, .slice v.a3 f.pa.length v.c3, .slice v.a4 f.va.length v.c4]) (fun _ I _ => f.pa.length - (intOf I).toNat)
 case atStart => exact ⟨0, Nat.zero_le _, rfl, World.ownsRow_nil _ _ _ _, HB0.o, KF.o⟩
 clear KF HB0;obtain ⟨k, hk, rfl, hown, hB, hK⟩ := hrel;have c0 := (hK.cell 0).trans rfl;have c1 := (hK.cell 1).trans rfl;have c2 := (hK.cell 2).trans rfl;have c3 := (hK.cell 3).trans rfl;have lg := hK.lt;have HO := jQ hown;have HB := jQ hB;have HK := jQ hK;clear hown hB hK;by_cases hlt : k < f.pa.length
 ·obtain ⟨b, off, hA1, hb, e0, e1, e2, e3⟩ := (HF.o.below HB.o (Nat.le_refl _)).pa.parcel hlt;have hb2 : b < wr.heap.size := Nat.lt_of_lt_of_le hb HB.o.size;have htk : wcells (L.take (k + 1)) = wcells (L.take k) ++ [.string ⟨f.pa[k].name.toArray⟩] := by
   rw [List.take_succ_eq_append_getElem (by rw [HLL.o]; exact hlt), y3b, HLG.o k hlt (by rw [HLL.o]; exact hlt)]
  obtain ⟨x, hx⟩ := zE (f.pa[k]);rw [hx] at e0 e1 e2 e3 htk;have HTK := jQ htk;have hown := HO.o;have f9 := c2;rw [hA1] at f9;clear htk hx hA1 c2;go_wp2_with (at_builtin; refine y26 rfl (.tmp 41) (.tmp 48) 23 rfl 9 i0 _ 1 16 Tryz.underlying23 hi0 hz0 hz1 hz2 rfl (by omega) (w.heap.size + 1) u5 k _ _ 1 1 wr rfl hown rfl rfl (by intro u hu; simp only [List.mem_cons, List.not_mem_nil, or_false] at hu; subst hu; rfl) (by omega) (by unfold maxLen; omega) (by omega) lg ?_; intro v' W2 hv2 hb9);refine ⟨⟨k + 1, by omega, by go_num, ?_, HB.o.trans (hb9.mono (Nat.le_succ _)), HK.o.below hb9 (Nat.lt_succ_self _)⟩, ?_⟩
  ·rw [HTK.o];exact hv2
  show f.pa.length - ((k : Int) + 1).toNat < f.pa.length - ((k : Int)).toNat;omega
 obtain rfl : k = f.pa.length := by omega
 have hok := HO.o;rw [show L.take f.pa.length = L from by rw [<- HLL.o, List.take_length]] at hok;obtain ⟨A', c', rfl, hrd, -⟩ := y0e hok (by rw [y1G, HLL.o]);have HRD := jQ hrd;clear hok hrd HO;go_wp2_with fail;go_ret;exact ⟨A', c', by rw [HLL.o]; rfl, by rw [HLL.o]; exact HRD.o, HB.o⟩
theorem yCU (v : Fv) (f : Dd.Fd) (w : World) (hF : FRd w w.heap.size v f) (hl : f.li.length <= 1000) (h1 : 1 <= f.li.length) :
  Calls Tryz.prog 86 #[fval v f, .int .i64 1] w (NmR w f.li) := by
 obtain ⟨i0, hi0, hz0, hz1, hz2⟩ := info_parts y9x;have hB0 := (Below.refl w.heap.size w).alloc (Nat.le_refl _) (.cells #[.slice v.a1 f.st.length v.c1, .slice v.a2 f.li.length v.c2, .slice v.a3 f.pa.length v.c3, .slice v.a4 f.va.length v.c4] 27);obtain ⟨b, off, hA, hb, hcell⟩ := (hF.li.below hB0 (Nat.le_refl _)).2 (by omega);have hnews : ∀ j u, (wcells f.li)[j]? = some u -> (w.alloc (.cells #[.slice v.a1 f.st.length v.c1, .slice v.a2 f.li.length v.c2, .slice v.a3 f.pa.length v.c3, .slice v.a4 f.va.length v.c4] 27)).cell? ((⟨b, off, none⟩ : Addr).add j) = some u := fun j u hu => by
  have hj : j < (wcells f.li).length := by
   rcases Nat.lt_or_ge j (wcells f.li).length with h | h
   ·exact h
   rw [List.getElem?_eq_none h] at hu; cases hu
  rw [show (⟨b, off, none⟩ : Addr).add j = ⟨b, off + j, none⟩ from by unfold Addr.add; split <;> simp_all, hcell j (by rw [y1G] at hj; exact hj)];exact hu
 have HN0 := jQ hnews;have HA := jQ hA;rw [y01];clear hF hcell hnews hB0 hA;go_enter Tryz.func86, Tryz.ntmps86;go_upto_region 8 with fail;refine y0i (fun V => Below w.heap.size w V /\ Bk V w.heap.size 27 #[.slice v.a1 f.st.length v.c1, .slice v.a2 f.li.length v.c2, .slice v.a3 f.pa.length v.c3, .slice v.a4 f.va.length v.c4] /\ ∀ j u, (wcells f.li)[j]? = some u -> V.cell? ((⟨b, off, none⟩ : Addr).add j) = some u) ⟨(Below.refl _ _).alloc (Nat.le_refl _) _, Bk.new _ _ _, HN0.o⟩ ?_;rintro W ⟨hb0, hk0, hn0⟩;have hB := jQ hb0;have KF := jQ hk0;have HN := jQ hn0;clear hb0 hk0 hn0 HN0;have c1 := (KF.o.cell 1).trans rfl;have c0 := (KF.o.cell 0).trans rfl;have c2 := (KF.o.cell 2).trans rfl;rw [HA.o] at c1;have lg := KF.o.lt;go_wp2_with (at_builtin; refine wpList_append_lies W rfl (.tmp 28) (.tmp 30) 23 rfl (w.heap.size + 1) 9 i0 _ 1 16 Tryz.underlying23 hi0 hz0 hz1 hz2 rfl (by omega) (.slice none 0 0) 0 [] rfl (World.ownsRow_nil _ _ _ _) ⟨b, off, none⟩ f.li.length v.c2 (wcells f.li) rfl (y1G f.li) HN.o (y9A f.li) (by omega) (by unfold maxLen; omega) (by omega) lg W.heap.size rfl ?_; intro g cap w2 hown hgr hat hgl);obtain ⟨A', c', he, hrd, -⟩ := y0e hown (by rw [List.nil_append, y1G, Nat.zero_add]);rw [Nat.zero_add] at he hrd;rw [List.nil_append] at hrd;simp only [Value.slice.injEq] at he;obtain ⟨rfl, -, rfl⟩ := he;have HRD := jQ hrd;have HB2 := jQ (y0j hB.o (Nat.le_refl _) hgr (fun r e => by cases e) hB.o.size);clear hown hrd;go_wp2_with fail;go_ret;exact ⟨some ⟨g, 0, none⟩, cap, rfl, HRD.o, HB2.o⟩
theorem y8u (v : Fv) (f : Dd.Fd) (k : Int) (hk : k = 0 ∨ k = 1 ∨ k = 2) (w : World) (hF : FRd w w.heap.size v f) (h1 : f.st.length <= 1000) (h2 : f.li.length <= 1000) (h3 : f.pa.length <= 1000) (h4 : 1 <= f.li.length) :
  Calls Tryz.prog 86 #[fval v f, .int .i64 k] w (NmR w (Dd.namesK f k)) := by
 rcases hk with rfl | rfl | rfl
 ·exact yCT v f _ w hF h1 (by simp [Dd.namesK]) (fun k h h2 => by simp [Dd.namesK])
 ·exact yCU v f w hF h2 h4
 exact yCV v f _ w hF h3 (by simp [Dd.namesK]) (fun k h h2 => by simp [Dd.namesK])
end

section
namespace Dd
theorem y4a : ∀ (l pre : List Bs), distA pre l = true ↔ ∀ i (h : i < l.length), l[i] ∉ pre ++ l.take i
  | [], pre => by simp [distA]
  | p :: r, pre => by
    rw [distA, Bool.and_eq_true, y4a r (pre ++ [p])];constructor
    · rintro ⟨h2, h3⟩ i hi
      cases i with
      | zero => simpa using h2
      | succ i =>
        have := h3 i (by simpa using hi);simpa [List.append_assoc] using this
    intro h;have h0 := h 0 (by simp);simp only [List.getElem_cons_zero, List.take_zero, List.append_nil] at h0;refine ⟨by simpa using h0, fun i hi => ?_⟩;have := h (i + 1) (by simpa using hi);simpa [List.append_assoc] using this
theorem y6G (l : List Bs) : dist l = true ↔ ∀ i (h : i < l.length), ¬ idxP (fun x => decide (x = l[i])) l 0 < (i : Int) := by
 unfold dist;rw [y4a];constructor
 ·intro h i hi hlt;have h1 := h i hi;rcases y14 (fun x => decide (x = l[i])) l 0 with ⟨j, hj, e2, e3, e1⟩ | ⟨e2, e1⟩
  ·rw [Int.zero_add] at e1;apply h1;rw [List.nil_append, List.mem_iff_getElem];refine ⟨j, by simp; omega, ?_⟩;simp only [List.getElem_take];simpa using e2
  have := e2 i hi;simp at this
 intro h i hi hm;rw [List.nil_append, List.mem_iff_getElem] at hm;obtain ⟨j, hj, e⟩ := hm;simp only [List.getElem_take] at e;have hj2 : j < i /\ j < l.length := by simp at hj; omega
 apply h i hi;rcases y14 (fun x => decide (x = l[i])) l 0 with ⟨k, hk, e2, e3, e1⟩ | ⟨e2, e1⟩
 ·rw [e1];rcases Nat.lt_or_ge j k with h4 | h4
  ·have := e3 j h4;rw [show decide (l[j] = l[i]) = true from decide_eq_true e] at this;cases this
  omega
 have := e2 j hj2.2;rw [show decide (l[j] = l[i]) = true from decide_eq_true e] at this;cases this
theorem y5y (f : Fd) : namesF f = true ↔ ∀ k : Nat, k < 3 -> (namesK f k).all nameF = true := by
 unfold namesF;rw [Bool.and_eq_true, Bool.and_eq_true];constructor
 ·rintro ⟨⟨h0, h1⟩, h2⟩ k hk;have : k = 0 ∨ k = 1 ∨ k = 2 := by omega
  rcases this with rfl | rfl | rfl
  ·exact h0
  ·exact h1
  exact h2
 intro h;exact ⟨⟨h 0 (by omega), h 1 (by omega)⟩, h 2 (by omega)⟩
theorem y7e (f : Fd) : distF f = true ↔ ∀ k : Nat, k < 3 -> dist (namesK f k) = true := by
 unfold distF;rw [Bool.and_eq_true, Bool.and_eq_true];constructor
 ·rintro ⟨⟨h0, h1⟩, h2⟩ k hk;have : k = 0 ∨ k = 1 ∨ k = 2 := by omega
  rcases this with rfl | rfl | rfl
  ·exact h0
  ·exact h1
  exact h2
 intro h;exact ⟨⟨h 0 (by omega), h 1 (by omega)⟩, h 2 (by omega)⟩
theorem y8q {f : Fd} {n : Nat} (h1 : f.st.length <= n) (h2 : f.li.length <= n) (h3 : f.pa.length <= n) (k : Int) : (namesK f k).length <= n := by
 unfold namesK;split
 ·simpa using h1
 split
 ·exact h2
 simpa using h3
theorem y8r {f : Fd} {n : Nat} (h1 : ∀ s ∈ f.st, s.1.length <= n) (h2 : ∀ s ∈ f.li, s.length <= n) (h3 : ∀ p ∈ f.pa, p.name.length <= n) (k : Int) : ∀ s ∈ namesK f k, s.length <= n := by
 unfold namesK;split
 ·intro s hs;obtain ⟨x, hx, rfl⟩ := List.mem_map.1 hs;exact h1 x hx
 split
 ·exact h2
 intro s hs;obtain ⟨x, hx, rfl⟩ := List.mem_map.1 hs;exact h3 x hx
end Dd
end
end Go.Proofs.YtccikcpcfdjobaaGreatDoor
