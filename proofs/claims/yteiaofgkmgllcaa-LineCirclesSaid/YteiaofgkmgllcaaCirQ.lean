/-
  The reference's CheckCircle.
-/
import Derived.Test.YteiaofgkmgllcaaStpP
set_option linter.unusedVariables false
set_option linter.unusedSimpArgs false
namespace Go.Proofs.Yteiaofgkmgllcaa
open Go.RowKit Go.Shelf

namespace Ln
def frm (bs : List Bd) (l : List Int) (k : Nat) : Int := (bd bs (gt l k).toNat).f
theorem onceB_iff {bs : List Bd} {N : Nat} (hok : Ok N bs) {l : List Int} (hin : ∀ i ∈ l, 0 ≤ i ∧ i < bs.length) : onceB bs l = true ↔ ∀ x, x < l.length → ∀ y, y < x → frm bs l y ≠ frm bs l x := by
  have hnn : ∀ k, k < l.length → 0 ≤ frm bs l k := fun k hk => by
    have h1 := hin l[k] (List.getElem_mem hk)
    have h2 := hok.each _ (bd_mem (show l[k].toNat < bs.length by omega))
    rw [frm, gt_eq hk]
    omega
  have hmp : ∀ k (hk : k < (l.map (fun i => (bd bs i.toNat).f.toNat)).length), (l.map (fun i => (bd bs i.toNat).f.toNat))[k] = (frm bs l k).toNat := fun k hk => by
    rw [List.length_map] at hk
    rw [List.getElem_map, frm, gt_eq hk]
  unfold onceB
  rw [decide_eq_true_eq, List.Nodup, List.pairwise_iff_getElem]
  constructor
  · intro h x hx y hy e
    have := h y x (by simp; omega) (by simpa using hx) hy
    rw [hmp, hmp, e] at this
    exact this rfl
  · intro h i j hi hj hij e
    rw [hmp, hmp] at e
    have hi' : i < l.length := by simpa using hi
    have hj' : j < l.length := by simpa using hj
    have h1 := hnn i hi'
    have h2 := hnn j hj'
    exact h j hj' i hij (by omega)
theorem isCirc_fl (bs : List Bd) (l : List Int) (a : Int) : isCirc bs l a (flG bs l (a, 0)) = ((flF bs l a).2.2 && (decide ((flF bs l a).1 = a) && (decide ((flF bs l a).2.1 < 0) && onceB bs l))) := by
  unfold flF isCirc
  rcases flG bs l (a, 0) with _ | ⟨t, s⟩ <;> rfl
end Ln

set_option maxRecDepth 100000 in
set_option maxHeartbeats 20000000 in
theorem rcheckCircle_any (N : Int) (A : Option Addr) (c : Nat) (bs : List Ln.Bd) (A2 : Option Addr) (c2 : Nat) (l : List Int) (w : World) (hR : Rd w w.heap.size 4 A bs.length (bcells bs)) (hc : Ln.Lv bs) (hL : Rd w w.heap.size 1 A2 l.length (ints l)) (hll : l.length ≤ 1000000) :
    Calls Try.prog 13 #[.agg #[.int .i64 N, .slice A bs.length c], .slice A2 l.length c2] w fun e w' => e = .returned (.tuple #[.bool (Ln.ccF N bs l).1, .int .i64 (Ln.ccF N bs l).2]) ∧ Below w.heap.size w w' := by
  have hB0 : Below w.heap.size w (w.alloc (.cells #[.int .i64 N, .slice A bs.length c] 24)) := (Below.refl _ _).alloc (Nat.le_refl _) _
  have hR1 := (hR.below hB0 (Nat.le_refl _)).more hB0.size
  have kS := Bk.new w 24 #[.int .i64 N, .slice A bs.length c]
  obtain ⟨r, hr⟩ : ∃ r, Ln.ccF N bs l = r := ⟨_, rfl⟩
  rw [hr]
  rw [Ln.ccF] at hr
  have hCK := rcheck_any N A c bs _ hR1 hc.len
  by_cases hs : Ln.check N bs = 0
  · obtain ⟨hok, hNt⟩ := Ln.ok_of_check hs
    rw [if_pos hs] at hr
    rw [hs] at hCK
    have HCK := Lib.hid hCK
    clear hCK
    by_cases h2 : l.length < 2
    · rw [if_pos (.inl h2)] at hr
      have HR := Lib.hid hr
      have h2i : (l.length : Int) < 2 := by omega
      clear hr hs hok hNt
      go_enter Try.func13, Try.ntmps13
      go_wp2_with fail
      refine HCK.out.mono ?_
      rintro e w1 ⟨rfl, hb9⟩
      have hB1 := hB0.trans (hb9.mono hB0.size)
      go_wp2_with fail
      go_quiet (fail)
      go_wp2_with fail
      go_ret2
      have hr := HR.out
      subst hr
      exact ⟨rfl, below_drewN hB1 _⟩
    · have h2i : (2 : Int) ≤ (l.length : Int) := by omega
      obtain ⟨bl, ol, rfl, hbl, el⟩ := Rd.one hL (show 0 < l.length by omega)
      have hd2 : ¬ ((l.length : Int) < 2) := by omega
      have hd3 : decide ((l.length : Int) < 2) = false := decide_eq_false hd2
      have el0 : (w.alloc (.cells #[.int .i64 N, .slice A bs.length c] 24)).cell? ⟨bl, ol + 0, none⟩ = some (.int .i64 l[0]) := (hB0.cell (p := ⟨bl, ol + 0, none⟩) hbl).trans el
      rw [Nat.add_zero] at el0
      have hl0 : Ln.l0 l = l[0] := by rw [Ln.l0, Ln.gt_eq (by omega)]
      obtain ⟨x, hx⟩ : ∃ x, l[0] = x := ⟨_, rfl⟩
      rw [hx] at el0 hl0
      rw [hl0] at hr
      clear el hx hl0
      rcases Int.lt_or_le x 0 with hx0 | hx0
      · rw [if_pos (.inr (.inl hx0))] at hr
        have HR := Lib.hid hr
        clear hr hs hok hNt
        go_enter Try.func13, Try.ntmps13
        go_wp2_with fail
        refine HCK.out.mono ?_
        rintro e w1 ⟨rfl, hb9⟩
        have k1 := kS.below hb9 (by simp)
        have hB1 := hB0.trans (hb9.mono hB0.size)
        have c0 := (k1.cell 0).trans rfl
        have c1 := (k1.cell 1).trans rfl
        have cl := k1.lt
        have el1 := (hb9.cell (p := ⟨bl, ol + 0, none⟩) (by simp; omega)).trans (el0)
        rw [Nat.add_zero] at el1
        go_wp2_with fail
        go_quiet (fail)
        go_wp2_with fail
        go_ret2
        have hr := HR.out
        subst hr
        exact ⟨rfl, below_drewN hB1 _⟩
      · have hd4 : decide (x < 0) = false := decide_eq_false (by omega)
        rcases Int.lt_or_le x bs.length with hx1 | hx1
        · rw [if_neg (by omega)] at hr
          obtain ⟨xn, rfl⟩ : ∃ xn : Nat, x = xn := ⟨x.toNat, by omega⟩
          rw [Int.toNat_natCast] at hr
          have hxl : xn < bs.length := by omega
          obtain ⟨fr, hfr⟩ : ∃ fr, (Ln.bd bs xn).f = fr := ⟨_, rfl⟩
          rw [hfr] at hr
          have HPA := Lib.hid fun w hR hL => rpath_any (M := N.toNat) N A c bs (some ⟨bl, ol, none⟩) c2 l fr fr w hok hR hL hll
          have hcirc := Ln.isCirc_fl bs l fr
          have hall := fun t s (h : Ln.flF bs l fr = (t, s, true)) => Ln.flF_all hok hc.live h
          obtain ⟨⟨t, s, is⟩, ht⟩ : ∃ t, Ln.flF bs l fr = t := ⟨_, rfl⟩
          rw [ht] at HPA hcirc hall
          rw [hcirc] at hr
          dsimp only at HPA hr hcirc
          obtain ⟨b', off, rfl, hb, e0, e1, e2, e3⟩ := (hR1.bound hxl)
          rw [← Ln.bd_eq hxl, hfr] at e0
          have hgg : (is && (decide (t = fr) && (decide (s < 0) && Ln.onceB bs l))) = ((is && decide (t = fr)) && (decide (s < 0) && Ln.onceB bs l)) := by rw [Bool.and_assoc]
          rw [hgg] at hr
          have hin : (is && decide (t = fr)) = true → ∀ i ∈ l, 0 ≤ i ∧ i < bs.length := fun h => by
            simp only [Bool.and_eq_true] at h
            obtain ⟨rfl, _⟩ := h
            exact hall t s rfl
          obtain ⟨g, hg⟩ : ∃ g, (is && decide (t = fr)) = g := ⟨_, rfl⟩
          rw [hg] at HPA hr hin
          have HR := Lib.hid hr
          have HIN := Lib.hid hin
          have HOK := Lib.hid hok
          clear ht hr hgg hg hcirc hall hin hs hok hNt hfr e1 e2 e3
          go_enter Try.func13, Try.ntmps13
          go_wp2_with fail
          refine HCK.out.mono ?_
          rintro e w1 ⟨rfl, hb9⟩
          have k1 := kS.below hb9 (by simp)
          have hB1 := hB0.trans (hb9.mono hB0.size)
          have c0 := (k1.cell 0).trans rfl
          have c1 := (k1.cell 1).trans rfl
          have cl := k1.lt
          have el1 := (hb9.cell (p := ⟨bl, ol + 0, none⟩) (by simp; omega)).trans (el0)
          have f0 := (hb9.cell (p := ⟨b', off + xn * 4, none⟩) hb).trans e0
          rw [Nat.add_zero] at el1
          go_wp2_with fail
          go_quiet (fail)
          go_wp2_with fail
          go_quiet (fail)
          go_wp2_with fail
          refine (HPA.out _ ((hR.below (below_drewN hB1 _) (Nat.le_refl _)).more (below_drewN hB1 _).size) ((hL.below (below_drewN hB1 _) (Nat.le_refl _)).more (below_drewN hB1 _).size)).mono ?_
          rintro e w2 ⟨rfl, hb2⟩
          have k2 := (k1.below (below_drewN (Below.refl _ _) _) k1.lt).below hb2 k1.lt
          have hB2 := (below_drewN hB1 _).trans (hb2.mono (below_drewN hB1 _).size)
          clear k1 c0 c1 cl el1 f0 hb2
          rcases g with _ | _
          · go_wp2_with fail
            go_ret2
            have hr := HR.out
            subst hr
            exact ⟨rfl, hB2⟩
          · rcases Int.lt_or_le s 0 with hs0 | hs0
            · have hd0 : decide (s < 0) = true := decide_eq_true hs0
              have hin := HIN.out rfl
              have hon := Ln.onceB_iff HOK.out hin
              have HON := Lib.hid hon
              have HIN2 := Lib.hid hin
              clear hon hin HIN
              go_wp2_with fail
              go_loopw [10] (fun I wr => ∃ i : Nat, i ≤ l.length ∧ I = .int .i64 i ∧ (∀ x, x < i → ∀ y, y < x → Ln.frm bs l y ≠ Ln.frm bs l x) ∧ Bk wr w.heap.size 24 #[.int .i64 N, .slice (some ⟨b', off, none⟩) bs.length c] ∧ Below w.heap.size w wr)
                (fun I _ => l.length - (intOf I).toNat)
              case atStart => exact ⟨0, Nat.zero_le _, rfl, fun x hx => by omega, k2, hB2⟩
              case round =>
                clear k2 hB2
                obtain ⟨i, hi, rfl, hno, k2, hB⟩ := hrel
                have HNO := Lib.hid hno
                clear hno
                by_cases hil : i < l.length
                · go_wp2_with fail
                  go_loopw [11] (fun K wq => ∃ k : Nat, k ≤ i ∧ K = .int .i64 k ∧ (∀ y, y < k → Ln.frm bs l y ≠ Ln.frm bs l i) ∧ Bk wq w.heap.size 24 #[.int .i64 N, .slice (some ⟨b', off, none⟩) bs.length c] ∧ Below w.heap.size w wq)
                    (fun K _ => i - (intOf K).toNat)
                  case atStart => exact ⟨0, Nat.zero_le _, rfl, fun y hy => by omega, k2, hB⟩
                  case round =>
                    clear k2 hB
                    obtain ⟨k, hk, rfl, hnk, k2, hB⟩ := hrel
                    have HNK := Lib.hid hnk
                    clear hnk
                    by_cases hki : k < i
                    · obtain ⟨bl', ol', e, hbl', el⟩ := Rd.one (hL.below hB (Nat.le_refl _)) hil
                      cases e
                      obtain ⟨bl'', ol'', e, hbl'', el2⟩ := Rd.one (hL.below hB (Nat.le_refl _)) (show k < l.length by omega)
                      cases e
                      have h1 := HIN2.out l[i] (List.getElem_mem hil)
                      have h2 := HIN2.out l[k] (List.getElem_mem (by omega))
                      have g1 : Ln.gt l i = l[i] := Ln.gt_eq hil
                      have g2 : Ln.gt l k = l[k] := Ln.gt_eq (by omega)
                      have q1 : Ln.frm bs l i = (Ln.bd bs l[i].toNat).f := by rw [Ln.frm, g1]
                      have q2 : Ln.frm bs l k = (Ln.bd bs l[k].toNat).f := by rw [Ln.frm, g2]
                      obtain ⟨u, hu⟩ : ∃ u : Nat, l[i] = u := ⟨l[i].toNat, by omega⟩
                      obtain ⟨v, hv⟩ : ∃ v : Nat, l[k] = v := ⟨l[k].toNat, by omega⟩
                      rw [hu] at h1 el q1
                      rw [hv] at h2 el2 q2
                      rw [Int.toNat_natCast] at q1 q2
                      have hul : u < bs.length := by omega
                      have hvl : v < bs.length := by omega
                      obtain ⟨bb, oo, e, hbb, u0, _, _, _⟩ := (hR.below hB (Nat.le_refl _)).bound hul
                      cases e
                      obtain ⟨bb', oo', e, hbb', v0, _, _, _⟩ := (hR.below hB (Nat.le_refl _)).bound hvl
                      cases e
                      rw [← Ln.bd_eq hul] at u0
                      rw [← Ln.bd_eq hvl] at v0
                      have c1 := (k2.cell 1).trans rfl
                      have cl := k2.lt
                      have hui : (u : Int) < (bs.length : Int) := by omega
                      have hvi : (v : Int) < (bs.length : Int) := by omega
                      have hu0 : (0 : Int) ≤ (u : Int) := Int.natCast_nonneg _
                      have hv0 : (0 : Int) ≤ (v : Int) := Int.natCast_nonneg _
                      have hii : (i : Int) < (l.length : Int) := by omega
                      have hkk : (k : Int) < (l.length : Int) := by omega
                      obtain ⟨fu, hfu⟩ : ∃ f, (Ln.bd bs u).f = f := ⟨_, rfl⟩
                      obtain ⟨fv, hfv⟩ : ∃ f, (Ln.bd bs v).f = f := ⟨_, rfl⟩
                      rw [hfu] at u0 q1
                      rw [hfv] at v0 q2
                      have Q1 := Lib.hid q1
                      have Q2 := Lib.hid q2
                      have REL := Lib.hid (And.intro k2 hB)
                      clear h1 h2 g1 g2 q1 q2 hu hv hfu hfv k2 hB
                      by_cases hfe : fu = fv
                      · subst hfe
                        have hee : (fu == fu) = true := by simp
                        go_wp2_with fail
                        go_quiet (fail)
                        go_wp2_with fail
                        go_ret2
                        have hr := HR.out
                        have hof : Ln.onceB bs l = false := by
                          rw [Bool.eq_false_iff]
                          intro h
                          exact HON.out.1 h i hil k hki (Q2.out.trans Q1.out.symm)
                        rw [hof] at hr
                        simp at hr
                        subst hr
                        exact ⟨rfl, below_drewN REL.out.2 _⟩
                      · have hee : (fu == fv) = false := by simpa using hfe
                        have HFE := Lib.hid hfe
                        clear hfe
                        go_wp2_with fail
                        go_quiet (fail)
                        go_wp2_with fail
                        go_roundw
                        case rel =>
                          obtain ⟨k2, hB⟩ := REL.out
                          exact ⟨k + 1, by omega, by go_num, fun y hy => by
                            rcases Nat.lt_or_ge y k with h | h
                            · exact HNK.out y h
                            · obtain rfl : y = k := by omega
                              rw [Q1.out, Q2.out]
                              exact fun e => HFE.out e.symm, k2.below (below_drewN (Below.refl _ _) _) cl, below_drewN hB _⟩
                        case measure => simp [intOf]; omega
                    · obtain rfl : k = i := by omega
                      have REL := Lib.hid (And.intro k2 hB)
                      clear k2 hB
                      go_wp2_with fail
                      go_roundw
                      case rel =>
                        obtain ⟨k2, hB⟩ := REL.out
                        exact ⟨k + 1, by omega, by go_num, fun x hx y hy => by
                          rcases Nat.lt_or_ge x k with h | h
                          · exact HNO.out x h y hy
                          · obtain rfl : x = k := by omega
                            exact HNK.out y hy, k2, hB⟩
                      case measure => simp [intOf]; omega
                · obtain rfl : i = l.length := by omega
                  go_wp2_with fail
                  go_ret2
                  have hr := HR.out
                  rw [HON.out.2 HNO.out] at hr
                  simp [hd0] at hr
                  subst hr
                  exact ⟨rfl, hB⟩
            · have hd0 : decide (s < 0) = false := decide_eq_false (by omega)
              go_wp2_with fail
              go_ret2
              have hr := HR.out
              rw [hd0] at hr
              subst hr
              exact ⟨rfl, hB2⟩
        · rw [if_pos (.inr (.inr hx1))] at hr
          have HR := Lib.hid hr
          clear hr hs hok hNt
          go_enter Try.func13, Try.ntmps13
          go_wp2_with fail
          refine HCK.out.mono ?_
          rintro e w1 ⟨rfl, hb9⟩
          have k1 := kS.below hb9 (by simp)
          have hB1 := hB0.trans (hb9.mono hB0.size)
          have c0 := (k1.cell 0).trans rfl
          have c1 := (k1.cell 1).trans rfl
          have cl := k1.lt
          have el1 := (hb9.cell (p := ⟨bl, ol + 0, none⟩) (by simp; omega)).trans (el0)
          rw [Nat.add_zero] at el1
          go_wp2_with fail
          go_quiet (fail)
          go_wp2_with fail
          go_ret2
          have hr := HR.out
          subst hr
          exact ⟨rfl, below_drewN hB1 _⟩
  · rw [if_neg hs] at hr
    have hne : (Ln.check N bs != 0) = true := by simp [hs]
    obtain ⟨s, hss⟩ : ∃ s, Ln.check N bs = s := ⟨_, rfl⟩
    rw [hss] at hne hCK hr
    have HR := Lib.hid hr
    have HCK := Lib.hid hCK
    clear hr hCK hs hss
    go_enter Try.func13, Try.ntmps13
    go_wp2_with fail
    refine HCK.out.mono ?_
    rintro e w1 ⟨rfl, hb9⟩
    go_wp2_with fail
    go_ret2
    have hr := HR.out
    subst hr
    exact ⟨rfl, hB0.trans (hb9.mono hB0.size)⟩

end Go.Proofs.Yteiaofgkmgllcaa
