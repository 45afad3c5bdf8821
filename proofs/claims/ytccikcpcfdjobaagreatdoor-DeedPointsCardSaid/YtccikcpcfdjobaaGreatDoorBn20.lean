/-
  What the claims of layer deed need of the texts Rwd, DAdj, DVst, DOpn, DOpl.
-/
import Derived.Laws.BytesArg
import Derived.Test.YtccikcpcfdjobaaGreatDoorBn04
import Derived.Test.YtccikcpcfdjobaaGreatDoorBn07
import Derived.Test.YtccikcpcfdjobaaGreatDoorBn17
import Derived.Test.YtccikcpcfdjobaaGreatDoorBn11
set_option linter.unusedVariables false
set_option linter.unusedSimpArgs false
namespace Go.Proofs.YtccikcpcfdjobaaGreatDoor
open Go.RowKit
set_option maxRecDepth 100000
namespace Cs
end Cs
theorem wpList_app1 {P : Program} {ops : Array Oper} {rest : List Oper} {o : Oper} {a : Act} {Q : Exit → Act → World → Prop} (hgd : o.guard = none) (s x : Operand) (t : TypeId)
  (ho : o.op = .call { callee := .builtin .append, args := #[s, x], argTypes := #[t, t] })
  (e : TypeId) (i : TypeInfo) (z : Value) (bytes : Nat) (ht : P.underlying t = some (.slice e)) (hi : P.info? e = some i) (hz : i.zero = some z) (hsize : i.size = 1) (hby : i.bytes = bytes) (hzs : z.cells.size = 1)
  (base : Nat) (v : Value) (n : Nat) (xs : List Value) (u : Value) (w : World) (hs : a.eval s = v) (hown : w.ownsRow base e 1 v n xs) (hx : a.eval x = .slice (some ⟨w.heap.size, 0, none⟩) 1 1) (h1 : u.oneCell' = true)
  (h63 : n + 1 ≤ maxLen) (hbytes : (n + 1) * bytes ≤ 140737488355328) (hbase : base ≤ w.heap.size)
  (h : ∀ v' w', w'.ownsRow base e 1 v' (n + 1) (xs ++ [u]) → Below base w w' → wpList P ops Q rest (a.put o.dst v') w') :
  wpList P ops Q (o :: rest) a (w.alloc (.cells #[u] e)) := by
 refine wpList_append_lies (w.alloc (.cells #[u] e)) hgd s x t ho base e i z 1 bytes ht hi hz hsize hby hzs (by omega) v n xs hs (hown.alloc _) ⟨w.heap.size, 0, none⟩ 1 1 [u] hx rfl (World.news_of_block (cs := #[u]) (t := e) (fr := (0, 0)) (World.alloc_heap_new _ _)) (by simpa using h1) (by omega) h63 hbytes (by simp; omega) (w.heap.size + 1) (by simp)
  fun g cap w' h2 h3 h4 h5 => h _ w' h2 ?_
 have hb := (Below.refl base w).alloc hbase (.cells #[u] e)
 exact below_own hb (Nat.le_refl _) h3 (fun r e => (hown.lt r e).1) (by simp; omega)
end Go.Proofs.YtccikcpcfdjobaaGreatDoor

namespace Go.Proofs.YtccikcpcfdjobaaGreatDoor
open Go.RowKit
set_option maxRecDepth 100000
def icells (l : List Int) : List Value := l.map (Value.int .i64)
theorem icells_append (a b : List Int) : icells (a ++ b) = icells a ++ icells b := List.map_append
theorem icells_length (l : List Int) : (icells l).length = l.length * 1 := by simp [icells]
theorem infoI3 : (Tryz.prog.info? 3).map (fun i => (i.zero, i.size, i.bytes)) = some (some (.int .i64 0), 1, 8) := by kernel_rfl
theorem Dd.adjA_step (q : Dd.Pa) (l : List Dd.Pa) (k : Nat) (hk : k < l.length) : Dd.adjA q (l.drop k) k = (if Dd.touch l[k] q then [(k : Int)] else []) ++ Dd.adjA q (l.drop (k + 1)) ((k : Int) + 1) := by
 rw [List.drop_eq_getElem_cons hk, Dd.adjA]
theorem Dd.paOk_south {f : Dd.Fd} (h : Dd.fieldE f = 0) (k : Nat) (hk : k < f.pa.length) : -100 ≤ f.pa[k].south ∧ f.pa[k].south ≤ 100 := by
 obtain ⟨_, _, _, h10, _, _, _, _, hr, _⟩ := Dd.field_facts h
 simp only [Dd.rangeF, Bool.and_eq_true, List.all_eq_true] at hr
 have := hr.2 _ (List.getElem_mem hk)
 simp only [Dd.paOk, Bool.and_eq_true, Dd.isIx, decide_eq_true_eq] at this
 omega
theorem Fs.next1 {w : World} {v : Fv} {f : Dd.Fd} {W W' : World} (h : Fs w w.heap.size v f W) (hb : Below (w.heap.size + 1) W W') : Fs w w.heap.size v f W' :=
 ⟨h.b.trans (hb.mono (Nat.le_succ _)), h.k.below hb (Nat.lt_succ_self _), h.r.below hb (Nat.le_succ _)⟩
set_option maxHeartbeats 8000000 in
theorem Adjoining_any (v : Fv) (f : Dd.Fd) (i : Int) (w : World) (hF : FRd w w.heap.size v f) :
    Calls Tryz.prog 13 #[fval v f, .int .i64 i] w fun e w' => ∃ A c, e = .returned (.tuple #[.slice A (Dd.adjF f i).1.length c, .int .i64 (Dd.adjF f i).2]) ∧ Rd w' w'.heap.size 1 A (Dd.adjF f i).1.length (icells (Dd.adjF f i).1) ∧ (∀ a, A = some a → w.heap.size ≤ a.block) ∧ Below w.heap.size w w' := by
  obtain ⟨i0, hi0, hz0, hz1, hz2⟩ := info_parts infoI3
  have hd : Dd.adjF f i = if Dd.fieldE f ≠ 0 then ([], Dd.fieldE f) else if Dd.isIx i f.pa.length then (Dd.adjA (Dd.paAt f i) f.pa 0, 0) else ([], 1) := rfl
  have hl3 := hF.l3
  have hk3 := hF.k3
  have S0 := Lib.hid (Fs.new hF)
  have B0 := Lib.hid (fun W (h : Fs w w.heap.size v f W) => checkField_any v f W h.rd)
  have HSO := Lib.hid (fun (h : Dd.fieldE f = 0) => Dd.paOk_south h)
  obtain ⟨R, hR⟩ : ∃ R, Dd.adjF f i = R := ⟨_, rfl⟩
  obtain ⟨ef, hef⟩ : ∃ e, Dd.fieldE f = e := ⟨_, rfl⟩
  rw [hR, hef] at hd
  rw [hR]
  rw [hef] at B0 HSO
  simp only [fval_def] at B0 ⊢
  obtain ⟨c0, c1, c2, c3, lg⟩ := S0.out.cells
  clear hF hef hR
  by_cases he : ef = 0
  · have HSO2 := Lib.hid (HSO.out he)
    subst he
    rw [if_neg (by simp)] at hd
    rcases z1 : Dd.isIx i f.pa.length with _ | _
    · rw [z1, if_neg (by simp)] at hd
      subst hd
      have D1 := Lib.hid z1
      clear z1
      go_enter Tryz.func13, Tryz.ntmps13
      go_wp2_with fail
      refine (B0.out _ S0.out).mono ?_
      rintro e w1 ⟨rfl, hb⟩
      have S1 := Lib.hid (S0.out.next hb)
      clear hb c0 c1 c2 c3 lg
      obtain ⟨c0, c1, c2, c3, lg⟩ := S1.out.cells
      go_wp2_with (go_at_call 44; refine (isIndex_any _ _ _).mono ?_; rw [D1.out]; rintro e w' ⟨rfl, rfl⟩)
      go_ret2
      exact ⟨none, 0, rfl, Rd.nil _ _ _ _, (by intro a e; cases e), S1.out.b⟩
    · rw [z1, if_pos rfl] at hd
      have i1 := z1
      simp only [Dd.isIx, decide_eq_true_eq] at i1
      have D1 := Lib.hid z1
      obtain ⟨u, hu⟩ : ∃ u : Nat, i = u := ⟨i.toNat, by omega⟩
      subst hu
      have hul : u < f.pa.length := by omega
      obtain ⟨q, hq⟩ : ∃ q, f.pa[u] = q := ⟨_, rfl⟩
      have hpa : Dd.paAt f (u : Int) = q := by
        unfold Dd.paAt
        rw [Int.toNat_natCast, List.getElem?_eq_getElem hul, hq]
        rfl
      rw [hpa] at hd
      subst hd
      have HQ := Lib.hid hq
      have HQS := Lib.hid (show -100 ≤ q.south ∧ q.south ≤ 100 by rw [← hq]; exact HSO2.out u hul)
      clear z1 hpa hq i1
      go_enter Tryz.func13, Tryz.ntmps13
      go_wp2_with fail
      refine (B0.out _ S0.out).mono ?_
      rintro e w1 ⟨rfl, hb⟩
      have S1 := Lib.hid (S0.out.next hb)
      clear hb c0 c1 c2 c3 lg
      obtain ⟨c0, c1, c2, c3, lg⟩ := S1.out.cells
      go_wp2_with (go_at_call 44; refine (isIndex_any _ _ _).mono ?_; rw [D1.out]; rintro e w' ⟨rfl, rfl⟩)
      clear c0 c1 c2 c3 lg
      go_loopw [7, 24] (fun V I wr => ∃ (k : Nat) (L : List Int), k ≤ f.pa.length ∧ I = .int .i64 k ∧ L.length ≤ k ∧ L ++ Dd.adjA q (f.pa.drop k) k = Dd.adjA q f.pa 0 ∧ wr.ownsRow (w.heap.size + 1) 3 1 V L.length (icells L) ∧ Fs w w.heap.size v f wr)
        (fun _ I _ => f.pa.length - (intOf I).toNat)
      case atStart => exact ⟨0, [], Nat.zero_le _, rfl, Nat.le_refl _, rfl, World.ownsRow_nil _ _ _ _, S1.out⟩
      case round =>
        clear S0 S1 B0
        obtain ⟨k, L, hk, rfl, hLk, hL, hown, hS⟩ := hrel
        have HL := Lib.hid hL
        have HO := Lib.hid hown
        have HS := Lib.hid hS
        clear hL hown hS
        obtain ⟨c0, c1, c2, c3, lg⟩ := HS.out.cells
        by_cases hlt : k < f.pa.length
        · have d1 : decide ((k : Int) < (f.pa.length : Int)) = true := decide_eq_true (by omega)
          obtain ⟨x, hx⟩ : ∃ x, f.pa[k] = x := ⟨_, rfl⟩
          obtain ⟨b, off, ha, hb, x0, x1, x2, x3⟩ := HS.out.rd.pa.parcel hlt
          obtain ⟨b', off', ha', hb', q0, q1, q2, q3⟩ := HS.out.rd.pa.parcel hul
          rw [hx] at x0 x1 x2 x3
          rw [HQ.out] at q0 q1 q2 q3
          have hx2 := HSO2.out k hlt
          rw [hx] at hx2
          have HST := Lib.hid (show L ++ ((if Dd.touch x q then [(k : Int)] else []) ++ Dd.adjA q (f.pa.drop (k + 1)) ((k : Int) + 1)) = Dd.adjA q f.pa 0 by rw [← hx, ← Dd.adjA_step q f.pa k hlt]; exact HL.out)
          have HT := Lib.hid (fun W => touch_any x q hx2 HQS.out W)
          have e2 : v.a3 = some ⟨b', off', none⟩ := ha'
          rw [ha] at ha'
          obtain ⟨rfl, rfl⟩ : b = b' ∧ off = off' := by simpa using ha'
          obtain ⟨n, so, we, ea⟩ := x
          obtain ⟨n', so', we', ea'⟩ := q
          obtain ⟨z, hz⟩ : ∃ z, Dd.touch ⟨n, so, we, ea⟩ ⟨n', so', we', ea'⟩ = z := ⟨_, rfl⟩
          rw [hz] at HST HT
          dsimp only at x0 x1 x2 x3 q0 q1 q2 q3 HT
          rw [ha] at c2
          have HA := Lib.hid ha
          rw [ha]
          clear ha ha' hx hx2 hz e2
          have hbW : Below wr.heap.size wr (wr.alloc (.cells #[.string ⟨n.toArray⟩, .int .i64 so, .int .i64 we, .int .i64 ea] 68)) := (Below.refl _ _).alloc (Nat.le_refl _) _
          have kx := Bk.new wr 68 #[.string ⟨n.toArray⟩, .int .i64 so, .int .i64 we, .int .i64 ea]
          have hbb : b < wr.heap.size := hb
          have HSB := Lib.hid (fun (V : World) (h : Below (wr.alloc (.cells #[.string ⟨n.toArray⟩, .int .i64 so, .int .i64 we, .int .i64 ea] 68)).heap.size (wr.alloc (.cells #[.string ⟨n.toArray⟩, .int .i64 so, .int .i64 we, .int .i64 ea] 68)) V) => (show (V.cell? ⟨w.heap.size, 2, none⟩ = some (.slice (some ⟨b, off, none⟩) f.pa.length v.c3) ∧ (V.cell? ⟨wr.heap.size, 0, none⟩ = some (.string ⟨n.toArray⟩) ∧ V.cell? ⟨wr.heap.size, 1, none⟩ = some (.int .i64 so) ∧ V.cell? ⟨wr.heap.size, 2, none⟩ = some (.int .i64 we) ∧ V.cell? ⟨wr.heap.size, 3, none⟩ = some (.int .i64 ea))) ∧ (V.cell? ⟨b, off + u * 4, none⟩ = some (.string ⟨n'.toArray⟩) ∧ V.cell? ⟨b, off + u * 4 + 1, none⟩ = some (.int .i64 so') ∧ V.cell? ⟨b, off + u * 4 + 2, none⟩ = some (.int .i64 we') ∧ V.cell? ⟨b, off + u * 4 + 3, none⟩ = some (.int .i64 ea')) from
            ⟨⟨((hbW.trans (h.mono hbW.size)).cell (by simpa using lg)).trans c2, ((kx.below h kx.lt).cell 0).trans rfl, ((kx.below h kx.lt).cell 1).trans rfl, ((kx.below h kx.lt).cell 2).trans rfl, ((kx.below h kx.lt).cell 3).trans rfl⟩,
              ((hbW.trans (h.mono hbW.size)).cell (by simpa using hbb)).trans q0, ((hbW.trans (h.mono hbW.size)).cell (by simpa using hbb)).trans q1, ((hbW.trans (h.mono hbW.size)).cell (by simpa using hbb)).trans q2, ((hbW.trans (h.mono hbW.size)).cell (by simpa using hbb)).trans q3⟩))
          have HBW := Lib.hid hbW
          clear kx hbW
          go_wp2_with fail
          clear x0 x1 x2 x3 q0 q1 q2 q3 c0 c1 c2 c3
          obtain ⟨⟨c2, x0, x1, x2, x3⟩, q0, q1, q2, q3⟩ := HSB.out _ (Below.refl _ _)
          go_cut [35] (fun s wx => s = .bool z ∧ Below wr.heap.size wr wx)
          case first =>
            go_region_held3 (fun V => (V.cell? ⟨w.heap.size, 2, none⟩ = some (.slice (some ⟨b, off, none⟩) f.pa.length v.c3) ∧ (V.cell? ⟨wr.heap.size, 0, none⟩ = some (.string ⟨n.toArray⟩) ∧ V.cell? ⟨wr.heap.size, 1, none⟩ = some (.int .i64 so) ∧ V.cell? ⟨wr.heap.size, 2, none⟩ = some (.int .i64 we) ∧ V.cell? ⟨wr.heap.size, 3, none⟩ = some (.int .i64 ea))) ∧ (V.cell? ⟨b, off + u * 4, none⟩ = some (.string ⟨n'.toArray⟩) ∧ V.cell? ⟨b, off + u * 4 + 1, none⟩ = some (.int .i64 so') ∧ V.cell? ⟨b, off + u * 4 + 2, none⟩ = some (.int .i64 we') ∧ V.cell? ⟨b, off + u * 4 + 3, none⟩ = some (.int .i64 ea')))
              (go_keep)
              ((go_at_call 50; refine (HT.out _).mono ?_; rintro e w3 ⟨rfl, hb3⟩; obtain ⟨⟨y2, z0, z1, z2, z3⟩, p0, p1, p2, p3⟩ := HSB.out _ ((Below.refl _ _).drew.trans (hb3.mono (Nat.le_refl _))); have hb4 := Lib.hid (HBW.out.drew.trans (hb3.mono (show wr.heap.size ≤ _ from HBW.out.size)))))
            all_goals
              go_wp2_with fail
              go_meet
              exact ⟨rfl, hb4.out⟩
          case rest =>
            obtain ⟨rfl, hb4⟩ := hcut
            have HS4 := Lib.hid (HS.out.next hb4)
            have HO4 := Lib.hid (own_belowG HO.out hb4)
            have hLm : L.length ≤ 1000000 := by omega
            have hBs : w.heap.size + 1 ≤ wc.heap.size := Nat.le_trans lg hb4.size
            clear hb4 x0 x1 x2 x3 q0 q1 q2 q3 c2 HS HO
            rcases z with _ | _
            · go_wp2_with fail
              refine ⟨⟨k + 1, L, by omega, rfl, by omega, ?_, HO4.out, HS4.out⟩, ?_⟩
              · exact HST.out
              · show f.pa.length - ((k : Int) + 1).toNat < f.pa.length - ((k : Int)).toNat
                omega
            · have hown := HO4.out
              go_wp2_with (at_builtin; refine wpList_app1 rfl (.tmp 36) (.tmp 38) 28 rfl 3 i0 _ 8 Tryz.underlying28 hi0 hz0 hz1 hz2 rfl (w.heap.size + 1) u7 _ _ _ wc rfl hown rfl rfl (by unfold maxLen; omega) (by omega) hBs ?_; intro v' W5 hv5 hb5)
              refine ⟨⟨k + 1, L ++ [(k : Int)], by omega, rfl, by simp; omega, ?_, ?_, HS4.out.next1 hb5⟩, ?_⟩
              · rw [List.append_assoc]
                exact HST.out
              · rw [icells_append, List.length_append]
                exact hv5
              · show f.pa.length - ((k : Int) + 1).toNat < f.pa.length - ((k : Int)).toNat
                omega
        · have d1 : decide ((k : Int) < (f.pa.length : Int)) = false := decide_eq_false (by omega)
          have hke : k = f.pa.length := by omega
          have hLe : L = Dd.adjA q f.pa 0 := by
            have := HL.out
            rw [hke, List.drop_length, Dd.adjA, List.append_nil] at this
            exact this
          obtain ⟨A', c', hV, hrd, hfar⟩ := ownB_rd HO.out (icells_length _)
          subst hV
          have HLE := Lib.hid hLe
          have HR := Lib.hid hrd
          have HF := Lib.hid hfar
          clear hrd hfar HO hLe hke c0 c1 c2 c3 lg
          go_wp2_with fail
          go_ret2
          refine ⟨A', c', ?_, ?_, fun a e => Nat.le_of_succ_le (HF.out a e), HS.out.b⟩
          · rw [← HLE.out]
            rfl
          · rw [← HLE.out]
            exact HR.out
  · rw [if_pos he] at hd
    subst hd
    have hne : (ef != 0) = true := by simp [he]
    go_enter Tryz.func13, Tryz.ntmps13
    go_wp2_with fail
    refine (B0.out _ S0.out).mono ?_
    rintro e w1 ⟨rfl, hb⟩
    have S1 := Lib.hid (S0.out.next hb)
    clear hb c0 c1 c2 c3 lg
    go_wp2_with fail
    go_ret2
    exact ⟨none, 0, rfl, Rd.nil _ _ _ _, (by intro a e; cases e), S1.out.b⟩
end Go.Proofs.YtccikcpcfdjobaaGreatDoor

namespace Go.Proofs.YtccikcpcfdjobaaGreatDoor
open Go.RowKit
set_option maxRecDepth 100000
structure FRw (w : World) (B : Nat) (v : Fv) (f : Dd.Fd) : Prop where
 st : Rd w B 2 v.a1 f.st.length (scells f.st)
 li : Rd w B 1 v.a2 f.li.length (wcells f.li)
 pa : Rd w B 4 v.a3 f.pa.length (pcells f.pa)
 va : Rd w B 2 v.a4 f.va.length (vcells f.va)
 k1 : f.st.length ≤ v.c1
 k2 : f.li.length ≤ v.c2
 k3 : f.pa.length ≤ v.c3
 l1 : f.st.length ≤ 9223372036854775807
 l2 : f.li.length ≤ 9223372036854775807
 l3 : f.pa.length ≤ 9223372036854775807
 l4 : f.va.length ≤ 9223372036854775807
 n1 : ∀ s ∈ f.st, s.1.length ≤ 9223372036854775807
 n2 : ∀ s ∈ f.li, s.length ≤ 9223372036854775807
 n3 : ∀ p ∈ f.pa, p.name.length ≤ 9223372036854775807
theorem FRw.below {w w' : World} {B C : Nat} {v : Fv} {f : Dd.Fd} (h : FRw w B v f) (hb : Below C w w') (hC : B ≤ C) : FRw w' B v f :=
 ⟨h.st.below hb hC, h.li.below hb hC, h.pa.below hb hC, h.va.below hb hC, h.k1, h.k2, h.k3, h.l1, h.l2, h.l3, h.l4, h.n1, h.n2, h.n3⟩
def Dd.longN (s : Cs.Bs) : Bool := decide (100 < s.length)
def Dd.bigF (f : Dd.Fd) : Bool := decide (20 < f.st.length) || (decide (20 < f.li.length) || (decide (60 < f.pa.length) || decide (60 < f.va.length)))
def Dd.vastF (f : Dd.Fd) : Bool := Dd.bigF f || ((f.st.any fun s => Dd.longN s.1) || ((f.li.any Dd.longN) || (f.pa.any fun p => Dd.longN p.name)))
theorem Dd.longN_no {s : Cs.Bs} (h : Dd.longN s = false) : s.length ≤ 100 := by simpa [Dd.longN] using h
theorem FRw.small {w : World} {B : Nat} {v : Fv} {f : Dd.Fd} (h : FRw w B v f) (hv : Dd.vastF f = false) : FRd w B v f := by
 unfold Dd.vastF Dd.bigF at hv
 simp only [Bool.or_eq_false_iff, decide_eq_false_iff_not, List.any_eq_false] at hv
 obtain ⟨⟨a1, a2, a3, a4⟩, b1, b2, b3⟩ := hv
 exact ⟨h.st, h.li, h.pa, h.va, h.k1, h.k2, h.k3, by omega, by omega, by omega, by omega,
  fun s hs => Nat.le_trans (Dd.longN_no (by simpa using b1 s hs)) (by decide), fun s hs => Nat.le_trans (Dd.longN_no (by simpa using b2 s hs)) (by decide), fun s hs => Nat.le_trans (Dd.longN_no (by simpa using b3 s hs)) (by decide)⟩
set_option maxHeartbeats 8000000 in
theorem vast_any (v : Fv) (f : Dd.Fd) (w : World) (hF : FRw w w.heap.size v f) :
  Calls Tryz.prog 7 #[fval v f] w fun e w' => e = .returned (.bool (Dd.vastF f)) ∧ Below w.heap.size w w' := by
 have hrf : Dd.vastF f = (Dd.bigF f || ((f.st.any fun s => Dd.longN s.1) || ((f.li.any Dd.longN) || (f.pa.any fun p => Dd.longN p.name)))) := rfl
 have hbf : Dd.bigF f = (decide (20 < f.st.length) || (decide (20 < f.li.length) || (decide (60 < f.pa.length) || decide (60 < f.va.length)))) := rfl
 have hl1 := hF.l1
 have hl2 := hF.l2
 have hl3 := hF.l3
 have hl4 := hF.l4
 have HF := Lib.hid hF
 have hfv : fval v f = .agg #[.slice v.a1 f.st.length v.c1, .slice v.a2 f.li.length v.c2, .slice v.a3 f.pa.length v.c3, .slice v.a4 f.va.length v.c4] := rfl
 rw [hfv]
 clear hF hfv
 obtain ⟨R, hR⟩ : ∃ R, Dd.vastF f = R := ⟨_, rfl⟩
 rw [hR] at hrf ⊢
 clear hR
 by_cases a1 : 20 < f.st.length
 ·have hr : R = true := by rw [hrf, hbf, decide_eq_true a1]; rfl
  have HR := Lib.hid hr
  have d1 : decide ((f.st.length : Int) > 20) = true := decide_eq_true (by omega)
  clear hr hrf hbf
  go_enter Tryz.func7, Tryz.ntmps7
  go_wp2_with fail
  go_ret
  exact ⟨ret_bool HR.out.symm, (Below.refl _ _).alloc (Nat.le_refl _) _⟩
 by_cases a2 : 20 < f.li.length
 ·have hr : R = true := by rw [hrf, hbf, decide_eq_true a2]; simp
  have HR := Lib.hid hr
  have d1 : decide ((f.st.length : Int) > 20) = false := decide_eq_false (by omega)
  have d2 : decide ((f.li.length : Int) > 20) = true := decide_eq_true (by omega)
  clear hr hrf hbf
  go_enter Tryz.func7, Tryz.ntmps7
  go_wp2_with fail
  go_ret
  exact ⟨ret_bool HR.out.symm, (Below.refl _ _).alloc (Nat.le_refl _) _⟩
 by_cases a3 : 60 < f.pa.length
 ·have hr : R = true := by rw [hrf, hbf, decide_eq_true a3]; simp
  have HR := Lib.hid hr
  have d1 : decide ((f.st.length : Int) > 20) = false := decide_eq_false (by omega)
  have d2 : decide ((f.li.length : Int) > 20) = false := decide_eq_false (by omega)
  have d3 : decide ((f.pa.length : Int) > 60) = true := decide_eq_true (by omega)
  clear hr hrf hbf
  go_enter Tryz.func7, Tryz.ntmps7
  go_wp2_with fail
  go_ret
  exact ⟨ret_bool HR.out.symm, (Below.refl _ _).alloc (Nat.le_refl _) _⟩
 by_cases a4 : 60 < f.va.length
 ·have hr : R = true := by rw [hrf, hbf, decide_eq_true a4]; simp
  have HR := Lib.hid hr
  have d1 : decide ((f.st.length : Int) > 20) = false := decide_eq_false (by omega)
  have d2 : decide ((f.li.length : Int) > 20) = false := decide_eq_false (by omega)
  have d3 : decide ((f.pa.length : Int) > 60) = false := decide_eq_false (by omega)
  have d4 : decide ((f.va.length : Int) > 60) = true := decide_eq_true (by omega)
  clear hr hrf hbf
  go_enter Tryz.func7, Tryz.ntmps7
  go_wp2_with fail
  go_ret
  exact ⟨ret_bool HR.out.symm, (Below.refl _ _).alloc (Nat.le_refl _) _⟩
 rw [hbf, decide_eq_false a1, decide_eq_false a2, decide_eq_false a3, decide_eq_false a4, Bool.false_or, Bool.false_or, Bool.false_or, Bool.false_or] at hrf
 have HR := Lib.hid hrf
 have d1 : decide ((f.st.length : Int) > 20) = false := decide_eq_false (by omega)
 have d2 : decide ((f.li.length : Int) > 20) = false := decide_eq_false (by omega)
 have d3 : decide ((f.pa.length : Int) > 60) = false := decide_eq_false (by omega)
 have d4 : decide ((f.va.length : Int) > 60) = false := decide_eq_false (by omega)
 clear hrf hbf
 go_enter Tryz.func7, Tryz.ntmps7
 go_wp2_with fail
 have HB := Lib.hid ((Below.refl w.heap.size w).alloc (Nat.le_refl _) (.cells #[.slice v.a1 f.st.length v.c1, .slice v.a2 f.li.length v.c2, .slice v.a3 f.pa.length v.c3, .slice v.a4 f.va.length v.c4] 27))
 have k0 := Bk.new w 27 #[.slice v.a1 f.st.length v.c1, .slice v.a2 f.li.length v.c2, .slice v.a3 f.pa.length v.c3, .slice v.a4 f.va.length v.c4]
 have f0 := (k0.cell 0).trans rfl
 have f1 := (k0.cell 1).trans rfl
 have f2 := (k0.cell 2).trans rfl
 have kl := k0.lt
 obtain ⟨W, hW⟩ : ∃ W, w.alloc (.cells #[.slice v.a1 f.st.length v.c1, .slice v.a2 f.li.length v.c2, .slice v.a3 f.pa.length v.c3, .slice v.a4 f.va.length v.c4] 27) = W := ⟨_, rfl⟩
 rw [hW] at HB f0 f1 f2 kl ⊢
 clear hW k0
 go_loop [3] (fun I => ∃ k : Nat, k ≤ f.st.length ∧ I = .int .i64 k ∧ ∀ j (h : j < f.st.length), j < k → Dd.longN f.st[j].1 = false) (fun I => f.st.length - (intOf I).toNat)
 case atStart => exact ⟨0, Nat.zero_le _, rfl, fun j h hj => absurd hj (by omega)⟩
 case round =>
  obtain ⟨k, hk, rfl, ha⟩ := hrel
  have HA := Lib.hid ha
  clear ha
  by_cases hlt : k < f.st.length
  ·obtain ⟨b, off, ha1, hb, e0, e1⟩ := (HF.out.st.below HB.out (Nat.le_refl _)).station hlt
   have hb2 : b < W.heap.size := Nat.lt_of_lt_of_le hb HB.out.size
   have hnl := HF.out.n1 _ (List.getElem_mem hlt)
   obtain ⟨x, hx⟩ : ∃ x, f.st[k] = x := ⟨_, rfl⟩
   rw [hx] at e0 e1 hnl
   have HX := Lib.hid hx
   by_cases hn : 100 < x.1.length
   ·have hno : R = true := by
     rw [HR.out]
     have : (f.st.any fun s => Dd.longN s.1) = true := List.any_eq_true.2 ⟨x, by rw [← HX.out]; exact List.getElem_mem hlt, decide_eq_true hn⟩
     rw [this]
     rfl
    have HNO := Lib.hid hno
    have d5 : decide ((x.1.length : Int) > 100) = true := decide_eq_true (by omega)
    clear hno hx
    rw [ha1]
    go_wp2_with fail
    go_ret
    exact ⟨ret_bool HNO.out.symm, HB.out⟩
   ·have d5 : decide ((x.1.length : Int) > 100) = false := decide_eq_false (by omega)
    have HD := Lib.hid (show Dd.longN x.1 = false from decide_eq_false hn)
    clear hx
    rw [ha1]
    go_wp2_with fail
    go_round
    case rel =>
     refine ⟨k + 1, by omega, by go_num, fun j h hj => ?_⟩
     by_cases e : j = k
     ·subst e
      rw [HX.out]
      exact HD.out
     ·exact HA.out j h (by omega)
    case measure => simp [intOf]; omega
  ·obtain rfl : k = f.st.length := by omega
   have hst : (f.st.any fun s => Dd.longN s.1) = false := by
    rw [List.any_eq_false]
    intro x hx
    obtain ⟨i, hi, rfl⟩ := List.getElem_of_mem hx
    simpa using HA.out i hi hi
   have hrf := HR.out
   rw [hst, Bool.false_or] at hrf
   have HR2 := Lib.hid hrf
   clear hrf hst HR HA
   go_wp2_with fail
   go_loop [4] (fun I => ∃ k : Nat, k ≤ f.li.length ∧ I = .int .i64 k ∧ ∀ j (h : j < f.li.length), j < k → Dd.longN f.li[j] = false) (fun I => f.li.length - (intOf I).toNat)
   case atStart => exact ⟨0, Nat.zero_le _, rfl, fun j h hj => absurd hj (by omega)⟩
   case round =>
    obtain ⟨k, hk, rfl, ha⟩ := hrel
    have HA := Lib.hid ha
    clear ha
    by_cases hlt : k < f.li.length
    ·obtain ⟨b, off, ha1, hb, e0⟩ := (HF.out.li.below HB.out (Nat.le_refl _)).text hlt
     have hb2 : b < W.heap.size := Nat.lt_of_lt_of_le hb HB.out.size
     have hnl := HF.out.n2 _ (List.getElem_mem hlt)
     obtain ⟨x, hx⟩ : ∃ x, f.li[k] = x := ⟨_, rfl⟩
     rw [hx] at e0 hnl
     have HX := Lib.hid hx
     by_cases hn : 100 < x.length
     ·have hno : R = true := by
       rw [HR2.out]
       have : (f.li.any Dd.longN) = true := List.any_eq_true.2 ⟨x, by rw [← HX.out]; exact List.getElem_mem hlt, decide_eq_true hn⟩
       rw [this]
       rfl
      have HNO := Lib.hid hno
      have d5 : decide ((x.length : Int) > 100) = true := decide_eq_true (by omega)
      clear hno hx
      rw [ha1]
      go_wp2_with fail
      go_ret
      exact ⟨ret_bool HNO.out.symm, HB.out⟩
     ·have d5 : decide ((x.length : Int) > 100) = false := decide_eq_false (by omega)
      have HD := Lib.hid (show Dd.longN x = false from decide_eq_false hn)
      clear hx
      rw [ha1]
      go_wp2_with fail
      go_round
      case rel =>
       refine ⟨k + 1, by omega, by go_num, fun j h hj => ?_⟩
       by_cases e : j = k
       ·subst e
        rw [HX.out]
        exact HD.out
       ·exact HA.out j h (by omega)
      case measure => simp [intOf]; omega
    ·obtain rfl : k = f.li.length := by omega
     have hst : (f.li.any Dd.longN) = false := by
      rw [List.any_eq_false]
      intro x hx
      obtain ⟨i, hi, rfl⟩ := List.getElem_of_mem hx
      simpa using HA.out i hi hi
     have hrf := HR2.out
     rw [hst, Bool.false_or] at hrf
     have HR3 := Lib.hid hrf
     clear hrf hst HR2 HA
     go_wp2_with fail
     go_loop [5] (fun I => ∃ k : Nat, k ≤ f.pa.length ∧ I = .int .i64 k ∧ ∀ j (h : j < f.pa.length), j < k → Dd.longN f.pa[j].name = false) (fun I => f.pa.length - (intOf I).toNat)
     case atStart => exact ⟨0, Nat.zero_le _, rfl, fun j h hj => absurd hj (by omega)⟩
     case round =>
      obtain ⟨k, hk, rfl, ha⟩ := hrel
      have HA := Lib.hid ha
      clear ha
      by_cases hlt : k < f.pa.length
      ·obtain ⟨b, off, ha1, hb, e0, e1, e2, e3⟩ := (HF.out.pa.below HB.out (Nat.le_refl _)).parcel hlt
       have hb2 : b < W.heap.size := Nat.lt_of_lt_of_le hb HB.out.size
       have hnl := HF.out.n3 _ (List.getElem_mem hlt)
       obtain ⟨x, hx⟩ : ∃ x, f.pa[k] = x := ⟨_, rfl⟩
       rw [hx] at e0 e1 e2 e3 hnl
       have HX := Lib.hid hx
       by_cases hn : 100 < x.name.length
       ·have hno : R = true := by
         rw [HR3.out]
         exact List.any_eq_true.2 ⟨x, by rw [← HX.out]; exact List.getElem_mem hlt, decide_eq_true hn⟩
        have HNO := Lib.hid hno
        have d5 : decide ((x.name.length : Int) > 100) = true := decide_eq_true (by omega)
        clear hno hx
        rw [ha1]
        go_wp2_with fail
        go_ret
        exact ⟨ret_bool HNO.out.symm, HB.out⟩
       ·have d5 : decide ((x.name.length : Int) > 100) = false := decide_eq_false (by omega)
        have HD := Lib.hid (show Dd.longN x.name = false from decide_eq_false hn)
        clear hx
        rw [ha1]
        go_wp2_with fail
        go_round
        case rel =>
         refine ⟨k + 1, by omega, by go_num, fun j h hj => ?_⟩
         by_cases e : j = k
         ·subst e
          rw [HX.out]
          exact HD.out
         ·exact HA.out j h (by omega)
        case measure => simp [intOf]; omega
      ·obtain rfl : k = f.pa.length := by omega
       have hst : R = false := by
        rw [HR3.out, List.any_eq_false]
        intro x hx
        obtain ⟨i, hi, rfl⟩ := List.getElem_of_mem hx
        simpa using HA.out i hi hi
       have HS := Lib.hid hst
       clear hst HR3 HA
       go_wp2_with fail
       go_ret
       exact ⟨ret_bool HS.out.symm, HB.out⟩
end Go.Proofs.YtccikcpcfdjobaaGreatDoor

namespace Go.Proofs.YtccikcpcfdjobaaGreatDoor
open Go.ChangeShapes Go.WideShapes Go.ChangeAt Go.RowKit Go.Deep Go.Joins
set_option maxRecDepth 100000
theorem Tryz.cellsStr : Tryz.prog.cellsOf 9 = 1 := by kernel_rfl
theorem Tryz.cellsSta : Tryz.prog.cellsOf 66 = 2 := by kernel_rfl
theorem Tryz.cellsPar : Tryz.prog.cellsOf 68 = 4 := by kernel_rfl
theorem Tryz.cellsFld : Tryz.prog.cellsOf 27 = 4 := by kernel_rfl
theorem Tryz.cellsS1 : Tryz.prog.cellsOf 22 = 1 := by kernel_rfl
theorem Tryz.cellsS2 : Tryz.prog.cellsOf 23 = 1 := by kernel_rfl
theorem Tryz.cellsS3 : Tryz.prog.cellsOf 24 = 1 := by kernel_rfl
theorem Tryz.cellsS4 : Tryz.prog.cellsOf 25 = 1 := by kernel_rfl
section
variable {H : Type} {enc : TypeId × Value → H} {w : World} {base : Nat} {spare : Nat → Bool} {held : Bool} {b0 : Nat} {r : Reach}
theorem els_of {α : Type} [Inhabited α] {P : Program} {cell : α → List Value} {n : Nat} {t e : TypeId} {Q : α → Prop} (ht : P.underlying t = some (.slice e)) (hce : P.cellsOf e = n) (hc : ∀ a, (cell a).length = n) (hn : 0 < n)
  (he : ∀ fuel cs x, DataW.trod enc P w base spare held fuel e cs = some x → ∃ a, cs = cell a ∧ Q a)
  {fuel : Nat} {cs : List Value} {x : DataW H × List MemPlace} (hf : DataW.trod enc P w base spare held fuel t cs = some x) :
  ∃ (A : Option Addr) (c : Nat) (ys : List α), cs = [.slice A ys.length c] ∧ Rd w w.heap.size n A ys.length (ys.flatMap cell) ∧ ys.length ≤ 9223372036854775807 ∧ ys.length ≤ c ∧ ∀ y ∈ ys, Q y := by
 rcases open_slice ht hf with ⟨hcs, hx⟩ | ⟨a, len, cap, m, k, D, Pl, hcs, _, hl, hm, hmm, hx, hel⟩
 ·exact ⟨none, 0, [], hcs, Rd.nil _ _ _ _, by simp, by simp, by simp⟩
 ·have hlm : len ≤ m := by rw [hmm]; split <;> omega
  have each : ∀ i, i < len → ∃ x : α, (∀ j, j < n → w.cell? (a.add (i * n + j)) = (cell x)[j]?) ∧ Q x := by
   intro i hi
   obtain ⟨cs', h1, h2⟩ := hel i (by omega)
   rw [hce] at h1
   obtain ⟨_, hlen, hcell⟩ := World.cells?_some h1
   obtain ⟨x, rfl, hq⟩ := he _ _ _ h2
   refine ⟨x, fun j hj => ?_, hq⟩
   have := hcell j hj
   rwa [add_add] at this
  obtain ⟨V, hV⟩ := choose_lt each
  have hlen : ((List.range len).map V).length = len := by simp
  refine ⟨some a, cap, (List.range len).map V, by rw [hlen]; exact hcs, ⟨by rw [flat_length hc], fun h0 => ?_⟩, by unfold maxLen at hm; simp; omega, by rw [hlen]; exact hl, fun b hb => ?_⟩
  ·rw [hlen] at h0 ⊢
   obtain ⟨v0, hv0⟩ : ∃ v, (cell (V 0))[0]? = some v := by
    cases hg : (cell (V 0))[0]? with
    | none => rw [List.getElem?_eq_none_iff, hc] at hg; omega
    | some v => exact ⟨v, rfl⟩
   obtain ⟨b', off', hab, hb'⟩ := plain_of_cell (((hV 0 h0).1 0 hn).trans hv0)
   obtain ⟨b, off, s⟩ := a
   obtain ⟨hb, rfl⟩ : b < w.heap.size ∧ s = none := by
    simp only [Addr.add, Nat.zero_mul, Nat.add_zero, if_true, Addr.mk.injEq] at hab
    exact ⟨by omega, hab.2.2⟩
   refine ⟨b, off, rfl, hb, fun j hj => ?_⟩
   have hdiv : j / n < len := Nat.div_lt_of_lt_mul (by rwa [Nat.mul_comm])
   have hq := (hV (j / n) hdiv).1 (j % n) (Nat.mod_lt _ hn)
   have hr := flat_at hc ((List.range len).map V) (k := j / n) (by rw [hlen]; exact hdiv) (Nat.mod_lt j hn)
   have hjn : j / n * n + j % n = j := by rw [Nat.mul_comm]; exact Nat.div_add_mod j n
   rw [hjn] at hq hr
   rw [add_plain] at hq
   simp only [List.getElem_map, List.getElem_range] at hr
   exact hq.trans hr.symm
  ·obtain ⟨i, hi, rfl⟩ := List.mem_map.1 hb
   exact (hV i (List.mem_range.1 hi)).2
theorem trod_text {fuel : Nat} {cs : List Value} {x : DataW H × List MemPlace} (h : DataW.trod enc Tryz.prog w base spare held fuel 9 cs = some x) : ∃ s : Cs.Bs, cs = [.string ⟨s.toArray⟩] ∧ s.length ≤ 9223372036854775807 := by
 obtain ⟨⟨⟨l⟩⟩, h1, _, h2⟩ := DataW.trod_string Tryz.underlying9 h
 refine ⟨l, h1, ?_⟩
 have e : (⟨⟨l⟩⟩ : ByteArray).size = l.length := rfl
 unfold maxLen at h2
 omega
theorem trod_text1 {fuel : Nat} {cs : List Value} {x : DataW H × List MemPlace} (h : DataW.trod enc Tryz.prog w base spare held fuel 9 cs = some x) : ∃ s : Cs.Bs, cs = [sv s] ∧ s.length ≤ 9223372036854775807 := trod_text h
theorem trod_station {fuel : Nat} {cs : List Value} {x : DataW H × List MemPlace} (h : DataW.trod enc Tryz.prog w base spare held fuel 66 cs = some x) : ∃ v : Cs.Bs × Int, cs = scell v ∧ v.1.length ≤ 9223372036854775807 := by
  obtain ⟨y0, y1, n, rfl, hl, g0, g1⟩ := trod_struct2 Tryz.underlying66 h
  rw [Tryz.cellsSta] at hl
  match cs, hl with
  | [v0, v1], _ =>
    simp only [Tryz.cellsInt, Tryz.cellsStr, List.drop_zero, List.drop_succ_cons, List.take_succ_cons, List.take_zero] at g0 g1
    obtain ⟨a, e0, w0⟩ := trod_text g0
    obtain ⟨b, e1, _, w1⟩ := DataW.trod_int Tryz.underlying3 g1
    simp only [List.cons.injEq, and_true] at e0 e1
    subst e0; subst e1
    exact ⟨(a, b), rfl, w0⟩
theorem trod_parcel {fuel : Nat} {cs : List Value} {x : DataW H × List MemPlace} (h : DataW.trod enc Tryz.prog w base spare held fuel 68 cs = some x) : ∃ v : Dd.Pa, cs = pcell v ∧ v.name.length ≤ 9223372036854775807 := by
  obtain ⟨xs, n, _, rfl, hl, hlen, hf⟩ := DataW.trod_struct Tryz.underlying68 h
  rw [Tryz.cellsPar] at hl
  match xs, hlen with
  | [y0, y1, y2, y3], _ =>
    have f0 := hf 0 _ rfl
    have f1 := hf 1 _ rfl
    have f2 := hf 2 _ rfl
    have f3 := hf 3 _ rfl
    match cs, hl with
    | [v0, v1, v2, v3], _ =>
      simp only [Tryz.cellsInt, Tryz.cellsStr, List.drop_zero, List.drop_succ_cons, List.take_succ_cons, List.take_zero, List.getElem?_cons_zero, List.getElem?_cons_succ] at f0 f1 f2 f3
      obtain ⟨a, e0, w0⟩ := trod_text f0
      obtain ⟨b, e1, _, w1⟩ := DataW.trod_int Tryz.underlying3 f1
      obtain ⟨c, e2, _, w2⟩ := DataW.trod_int Tryz.underlying3 f2
      obtain ⟨d, e3, _, w3⟩ := DataW.trod_int Tryz.underlying3 f3
      cases e0; cases e1; cases e2; cases e3
      exact ⟨⟨a, b, c, d⟩, rfl, w0⟩
instance : Inhabited Dd.Pa := ⟨⟨[], 0, 0, 0⟩⟩
instance : Inhabited Dd.Ca := ⟨Dd.ca0⟩
theorem open_field {v : Value} {d : DataW H} {p : List MemPlace} (hv : Value.okWide Tryz.prog w r b0 27 v) (h : DataW.Trod enc Tryz.prog w base spare held 27 v d p) :
    ∃ (u : Fv) (f : Dd.Fd), v = fval u f ∧ FRw w w.heap.size u f := by
  obtain ⟨cs, rfl, hsz⟩ := okWide_struct Tryz.underlying27 hv
  obtain ⟨fuel, hfu⟩ := h
  obtain ⟨xs, n, _, _, hl, hlen, hf⟩ := DataW.trod_struct Tryz.underlying27 hfu
  rw [Tryz.cellsFld] at hl
  obtain ⟨cs⟩ := cs
  have hl : cs.length = 4 := hl
  match xs, hlen with
  | [y0, y1, y2, y3], _ =>
    have f0 := hf 0 _ rfl
    have f1 := hf 1 _ rfl
    have f2 := hf 2 _ rfl
    have f3 := hf 3 _ rfl
    match cs, hl with
    | [v0, v1, v2, v3], _ =>
      simp only [Value.cells, Tryz.cellsS1, Tryz.cellsS2, Tryz.cellsS3, Tryz.cellsS4, List.drop_zero, List.drop_succ_cons, List.take_succ_cons, List.take_zero, List.getElem?_cons_zero, List.getElem?_cons_succ] at f0 f1 f2 f3
      obtain ⟨A1, c1, st, e0, r1, l1, k1, n1⟩ := els_of (cell := scell) (n := 2) (Q := fun v => v.1.length ≤ 9223372036854775807) Tryz.underlying22 Tryz.cellsSta (fun _ => rfl) (by decide) (fun fuel cs x hx => trod_station hx) f0
      obtain ⟨A2, c2, li, e1, r2, l2, k2, n2⟩ := els_of (cell := fun s => [sv s]) (n := 1) (Q := fun v => v.length ≤ 9223372036854775807) Tryz.underlying23 Tryz.cellsStr (fun _ => rfl) (by decide) (fun fuel cs x hx => trod_text1 hx) f1
      obtain ⟨A3, c3, pa, e2, r3, l3, k3, n3⟩ := els_of (cell := pcell) (n := 4) (Q := fun v => v.name.length ≤ 9223372036854775807) Tryz.underlying24 Tryz.cellsPar (fun _ => rfl) (by decide) (fun fuel cs x hx => trod_parcel hx) f2
      obtain ⟨A4, c4, va, e3, r4, l4, _, _⟩ := els_of (cell := vcell) (n := 2) (Q := fun _ => True) Tryz.underlying25 Tryz.cellsVar (fun _ => rfl) (by decide) (fun fuel cs x hx => trod_variation hx) f3
      cases e0; cases e1; cases e2; cases e3
      have hw : ∀ l : List Cs.Bs, l.flatMap (fun s => [sv s]) = wcells l := fun l => by
        induction l with
        | nil => rfl
        | cons a t ih => rw [List.flatMap_cons, ih]; rfl
      rw [hw] at r2
      exact ⟨⟨A1, c1, A2, c2, A3, c3, A4, c4⟩, ⟨st, li, pa, va⟩, rfl, ⟨r1, r2, r3, r4, k1, k2, k3, l1, l2, l3, l4, n1, n2, n3⟩⟩
end
end Go.Proofs.YtccikcpcfdjobaaGreatDoor

namespace Go.Proofs.YtccikcpcfdjobaaGreatDoor
open Go.ChangeShapes Go.WideShapes Go.ChangeAt Go.RowKit Go.Deep Go.Joins
set_option maxRecDepth 100000
section
variable {H : Type} {enc : TypeId × Value → H} {w : World} {base : Nat} {spare : Nat → Bool} {held : Bool} {b0 : Nat} {r : Reach}
theorem icells_flat (l : List Int) : l.flatMap (fun a => [Value.int .i64 a]) = icells l := by
 induction l with
 | nil => rfl
 | cons a t ih => rw [List.flatMap_cons, ih]; rfl
theorem open_nums {v : Value} {d : DataW H} {p : List MemPlace} (hv : Value.okWide Tryz.prog w r b0 28 v) (h : DataW.Trod enc Tryz.prog w base spare held 28 v d p) :
  ∃ (A : Option Addr) (c : Nat) (y : List Int), v = .slice A y.length c ∧ Rd w w.heap.size 1 A y.length (icells y) ∧ y.length ≤ 9223372036854775807 := by
 obtain ⟨a0, len, cap, rfl⟩ := okWide_slice Tryz.underlying28 hv
 obtain ⟨fuel, hf⟩ := h
 obtain ⟨A1, c1, y, e0, r1, l1, k1, _⟩ := els_of (cell := fun a : Int => [Value.int .i64 a]) (n := 1) (Q := fun _ => True) Tryz.underlying28 Tryz.cellsInt (fun _ => rfl) (by decide)
  (fun fuel cs x hx => by obtain ⟨a, e, _⟩ := DataW.trod_int Tryz.underlying3 hx; exact ⟨a, e, trivial⟩) hf
 rw [icells_flat] at r1
 simp only [Value.cells, List.cons.injEq, and_true, Value.slice.injEq] at e0
 obtain ⟨rfl, rfl, rfl⟩ := e0
 exact ⟨_, _, y, rfl, r1, l1⟩
end
end Go.Proofs.YtccikcpcfdjobaaGreatDoor
