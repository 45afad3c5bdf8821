/-
  The reference's measure, Length and Acres.
-/
import Derived.Test.YtncdeogpmodoaabGreatDoorRqd
set_option linter.unusedVariables false
set_option linter.unusedSimpArgs false
namespace Go.Proofs.YtncdeogpmodoaabGreatDoor
open Go.RowKit
set_option maxRecDepth 100000

namespace Cs
theorem join_snoc2 (ws : List Bs) (a b : Bs) : Lib.join (ws ++ [a, b]) [32] = (if ws = [] then [] else Lib.join ws [32] ++ [32]) ++ a ++ [32] ++ b := by
  cases ws with
  | nil => rw [if_pos rfl, List.nil_append, Lib.join_cons]; simp [Lib.joinTail]
  | cons w r =>
    rw [if_neg (by simp), List.cons_append, Lib.join_cons, Lib.join_cons]
    simp [Lib.joinTail]
theorem join_nil_iff {ws : List Bs} (h : ∀ x ∈ ws, Wd x) : Lib.join ws [32] = [] ↔ ws = [] := by
  cases ws with
  | nil => simp [Lib.join]
  | cons w r =>
    have := (h w List.mem_cons_self).1
    rw [Lib.join_cons]
    simp [this]
/-- What measure has written behind some units. -/
def outF (us : List Un) (n : Int) : Bs := Lib.join (wordsF us n) [32]
theorem outF_snoc {us : List Un} {u : Un} {n : Int} (hus : ∀ x ∈ us, Wd x.one ∧ Wd x.many ∧ 0 < x.size) (h0 : 0 ≤ n) :
    outF (us ++ [u]) n = if restF us n / u.size = 0 then outF us n
      else if restF us n / u.size = 1 then (if outF us n = [] then [] else outF us n ++ [32]) ++ [49, 32] ++ u.one
      else (if outF us n = [] then [] else outF us n ++ [32]) ++ Lib.itoa (restF us n / u.size) ++ [32] ++ u.many := by
  have hj := join_nil_iff (words_wd hus h0)
  unfold outF
  rw [wordsF_snoc]
  unfold pairF
  by_cases q0 : restF us n / u.size = 0
  · rw [if_pos q0, if_pos q0, List.append_nil]
  · rw [if_neg q0, if_neg q0]
    by_cases q1 : restF us n / u.size = 1
    · rw [if_pos q1, if_pos q1, join_snoc2]
      simp only [hj]
      simp
    · rw [if_neg q1, if_neg q1, join_snoc2]
      simp only [hj]
theorem rest_range {us : List Un} {n : Int} (hus : ∀ x ∈ us, 0 < x.size) (h0 : 0 ≤ n) : 0 ≤ restF us n ∧ restF us n ≤ n := by
  induction us generalizing n with
  | nil => exact ⟨h0, Int.le_refl _⟩
  | cons u r ih =>
    rw [restF]
    have hu := hus u List.mem_cons_self
    have h2 := Int.emod_nonneg n (show u.size ≠ 0 by omega)
    have h3 : n % u.size ≤ n := by
      have h4 := Int.mul_ediv_add_emod n u.size
      have h5 := Int.mul_nonneg (show 0 ≤ u.size by omega) (Int.ediv_nonneg h0 (show 0 ≤ u.size by omega))
      omega
    have := ih (fun x hx => hus x (List.mem_cons_of_mem _ hx)) h2
    omega
theorem words_le {us : List Un} {n : Int} (hus : ∀ x ∈ us, 0 < x.size) (hl : ∀ x ∈ us, x.one.length ≤ 100 ∧ x.many.length ≤ 100) (h0 : 0 ≤ n) (h1 : n ≤ 1000000000000) : ∀ x ∈ wordsF us n, x.length ≤ 100 := by
  induction us generalizing n with
  | nil => intro x hx; cases hx
  | cons u r ih =>
    intro x hx
    have hu := hus u List.mem_cons_self
    have hq := hl u List.mem_cons_self
    have hq0 : 0 ≤ n / u.size := Int.ediv_nonneg h0 (by omega)
    have hqr : n / u.size ≤ n := Int.ediv_le_self _ h0
    have hr := rest_range (us := [u]) (n := n) (fun y hy => by rw [List.mem_singleton.1 hy]; exact hu) h0
    simp only [restF] at hr
    rcases List.mem_append.1 hx with hx | hx
    · unfold pairF at hx
      split at hx
      · cases hx
      · split at hx
        · simp only [List.mem_cons, List.not_mem_nil, or_false] at hx
          rcases hx with rfl | rfl
          · simp
          · exact hq.1
        · simp only [List.mem_cons, List.not_mem_nil, or_false] at hx
          rcases hx with rfl | rfl
          · exact itoa_len hq0 (by omega)
          · exact hq.2
    · exact ih (fun y hy => hus y (List.mem_cons_of_mem _ hy)) (fun y hy => hl y (List.mem_cons_of_mem _ hy)) hr.1 (by omega) x hx
theorem outF_len {us : List Un} {n : Int} (hus : ∀ x ∈ us, 0 < x.size) (hl : ∀ x ∈ us, x.one.length ≤ 100 ∧ x.many.length ≤ 100) (h4 : us.length ≤ 4) (h0 : 0 ≤ n) (h1 : n ≤ 1000000000000) : (outF us n).length ≤ 1000 := by
  have := join_len (wordsF us n) 100 (words_le hus hl h0 h1)
  have h2 := (words_len us n).1
  unfold outF
  have h3 : (wordsF us n).length * (100 + 1) ≤ 8 * (100 + 1) := Nat.mul_le_mul_right _ (by omega)
  omega
theorem outF_step {us : List Un} {n : Int} {k : Nat} (hk : k < us.length) (hus : ∀ x ∈ us, Wd x.one ∧ Wd x.many ∧ 0 < x.size) (h0 : 0 ≤ n) :
    restF (us.take (k + 1)) n = restF (us.take k) n % us[k].size ∧
    outF (us.take (k + 1)) n = if restF (us.take k) n / us[k].size = 0 then outF (us.take k) n
      else if restF (us.take k) n / us[k].size = 1 then (if outF (us.take k) n = [] then [] else outF (us.take k) n ++ [32]) ++ [49, 32] ++ us[k].one
      else (if outF (us.take k) n = [] then [] else outF (us.take k) n ++ [32]) ++ Lib.itoa (restF (us.take k) n / us[k].size) ++ [32] ++ us[k].many := by
  rw [List.take_succ_eq_append_getElem hk]
  exact ⟨restF_snoc _ _ _, outF_snoc (fun x hx => hus x (List.mem_of_mem_take hx)) h0⟩
theorem outF_zero (us : List Un) : outF us 0 = [] := by
  have : wordsF us 0 = [] := by
    induction us with
    | nil => rfl
    | cons u r ih => rw [wordsF, Int.zero_ediv, Int.zero_emod, ih]; rfl
  rw [outF, this]; rfl
end Cs

theorem size_at {W : World} {g : Nat} {us : List Cs.Un} (h : Bk W g 3 (us.map fun u => Value.int .i64 u.size).toArray) {k : Nat} (hk : k < us.length) : W.cell? ⟨g, k, none⟩ = some (.int .i64 us[k].size) := by
  rw [h.cell k]; simp [hk]
theorem text_at {W : World} {g : Nat} {us : List Cs.Un} {f : Cs.Un → Cs.Bs} (h : Bk W g 9 (us.map fun u => sv (f u)).toArray) {k : Nat} (hk : k < us.length) : W.cell? ⟨g, k, none⟩ = some (.string ⟨(f us[k]).toArray⟩) := by
  rw [h.cell k]; simp [hk, sv]

set_option maxHeartbeats 8000000 in
theorem measure_any (us : List Cs.Un) (hus : ∀ x ∈ us, Cs.Wd x.one ∧ Cs.Wd x.many ∧ 0 < x.size) (hl : ∀ x ∈ us, x.one.length ≤ 100 ∧ x.many.length ≤ 100) (h4 : us.length ≤ 4) (gs gm go : Nat) (n : Int) (h0 : 0 ≤ n) (h1 : n ≤ 1000000000000) (w : World)
    (ks : Bk w gs 3 (us.map fun u => Value.int .i64 u.size).toArray) (km : Bk w gm 9 (us.map fun u => sv u.many).toArray) (ko : Bk w go 9 (us.map fun u => sv u.one).toArray) :
    Calls Tryz.prog 47 #[.int .i64 n, .slice (some ⟨gs, 0, none⟩) us.length us.length, .slice (some ⟨gm, 0, none⟩) us.length us.length, .slice (some ⟨go, 0, none⟩) us.length us.length] w fun e w' =>
      e = .returned (sv (if Cs.outF us n = [] then Cs.zeroL else Cs.outF us n)) ∧ Below w.heap.size w w' := by
  have HKS := Lib.hid ks
  have HKM := Lib.hid km
  have HKO := Lib.hid ko
  have HUS := Lib.hid hus
  have HL := Lib.hid hl
  obtain ⟨F, hF⟩ : ∃ F, (if Cs.outF us n = [] then Cs.zeroL else Cs.outF us n) = F := ⟨_, rfl⟩
  rw [hF]
  have HF := Lib.hid hF
  clear ks km ko hus hl hF
  go_enter Tryz.func47, Tryz.ntmps47
  go_wp2_with fail
  go_loopw [9, 10, 11, 12] (fun O R I _ wr => ∃ k : Nat, k ≤ us.length ∧ I = .int .i64 k ∧ R = .int .i64 (Cs.restF (us.take k) n) ∧ O = .string ⟨(Cs.outF (us.take k) n).toArray⟩ ∧ Below w.heap.size w wr) (fun _ _ I _ _ => us.length - (intOf I).toNat)
  case atStart => exact ⟨0, Nat.zero_le _, rfl, rfl, rfl, Below.refl _ _⟩
  case round =>
    obtain ⟨k, hk, rfl, rfl, rfl, hB⟩ := hrel
    have HB := Lib.hid hB
    by_cases hlt : k < us.length
    · have hk5 : decide ((k : Int) < (us.length : Int)) = true := decide_eq_true (by omega)
      obtain ⟨hr, ho⟩ := Cs.outF_step hlt HUS.out h0
      have hrg := Cs.rest_range (us := us.take k) (n := n) (fun x hx => (HUS.out x (List.mem_of_mem_take hx)).2.2) h0
      have hol := Cs.outF_len (us := us.take k) (n := n) (fun x hx => (HUS.out x (List.mem_of_mem_take hx)).2.2) (fun x hx => HL.out x (List.mem_of_mem_take hx)) (by rw [List.length_take]; omega) h0 h1
      have hu := HUS.out _ (List.getElem_mem hlt)
      have hul := HL.out _ (List.getElem_mem hlt)
      have e0 : wr.cell? ⟨gs, k, none⟩ = _ := (hB.cell (p := ⟨gs, k, none⟩) HKS.out.lt).trans (size_at HKS.out hlt)
      have em : ∀ V, Below w.heap.size w V → V.cell? ⟨gm, k, none⟩ = _ := fun V h => (h.cell (p := ⟨gm, k, none⟩) HKM.out.lt).trans (text_at (f := fun u => u.many) HKM.out hlt)
      have eo : wr.cell? ⟨go, k, none⟩ = _ := (hB.cell (p := ⟨go, k, none⟩) HKO.out.lt).trans (text_at (f := fun u => u.one) HKO.out hlt)
      have ls : gs < wr.heap.size := Nat.lt_of_lt_of_le HKS.out.lt hB.size
      have lo : go < wr.heap.size := Nat.lt_of_lt_of_le HKO.out.lt hB.size
      obtain ⟨r, hrr⟩ : ∃ r, Cs.restF (us.take k) n = r := ⟨_, rfl⟩
      obtain ⟨o, hoo⟩ : ∃ o, Cs.outF (us.take k) n = o := ⟨_, rfl⟩
      rw [hrr] at hr ho hrg ⊢
      rw [hoo] at ho hol ⊢
      obtain ⟨⟨one, many, s⟩, huk⟩ : ∃ u, us[k] = u := ⟨_, rfl⟩
      rw [huk] at hr ho hu hul e0 em eo
      dsimp only at hr ho hu hul e0 em eo
      obtain ⟨_, _, us0⟩ := hu
      obtain ⟨u1, u2⟩ := hul
      have hq0 : 0 ≤ r / s := Int.ediv_nonneg hrg.1 (by omega)
      have hqr : r / s ≤ r := Int.ediv_le_self _ hrg.1
      have hm0 : 0 ≤ r % s := Int.emod_nonneg _ (by omega)
      have htd : r.tdiv s = r / s := Int.tdiv_eq_ediv_of_nonneg hrg.1
      have htm : r.tmod s = r % s := Int.tmod_eq_emod_of_nonneg hrg.1
      have hmr : r % s ≤ 1000000000000 := by
        have := Int.emod_lt_of_pos r us0
        have h4 := Int.mul_ediv_add_emod r s
        have h5 := Int.mul_nonneg (show 0 ≤ s by omega) hq0
        omega
      obtain ⟨r0, r1⟩ := hrg
      obtain ⟨q, hq⟩ : ∃ q, r / s = q := ⟨_, rfl⟩
      obtain ⟨m, hm⟩ : ∃ m, r % s = m := ⟨_, rfl⟩
      rw [hq] at ho hq0 hqr htd
      rw [hm] at hr hm0 hmr htm
      have hs0 : ¬ s = 0 := by omega
      have EM := Lib.hid em
      have HR := Lib.hid hr
      clear em hr hrr hoo huk hq hm hk hB
      by_cases z0 : q = 0
      · rw [if_pos z0] at ho
        have HO := Lib.hid ho
        subst z0
        clear ho
        go_wp2_with fail
        go_roundw
        case rel => exact ⟨k + 1, by omega, by go_num, by rw [HR.out], by rw [HO.out], HB.out⟩
        case measure => simp [intOf]; omega
      · rw [if_neg z0] at ho
        have t0 : (q == 0) = false := beq_eq_false_iff_ne.2 z0
        by_cases z1 : q = 1
        · rw [if_pos z1] at ho
          subst z1
          clear t0 z0
          by_cases ze : o = []
          · subst ze
            rw [if_pos rfl, List.nil_append] at ho
            have c2 : ∀ w, (Op.stringOp .add ⟨#[]⟩ ⟨#[49, 32]⟩).run Tryz.prog w = .ok (.string ⟨#[49, 32]⟩) w := fun w => cat2 (P := Tryz.prog) [] [49, 32] (by decide) (by decide) w
            have c3 := fun w => cat2 (P := Tryz.prog) [49, 32] one (by decide) (by omega) w
            obtain ⟨o3, ho3⟩ : ∃ x, [49, 32] ++ one = x := ⟨_, rfl⟩
            rw [ho3] at c3 ho
            have HO := Lib.hid ho
            clear ho ho3
            go_wp2_with fail
            go_roundw
            case rel => exact ⟨k + 1, by omega, by go_num, by rw [HR.out], by rw [HO.out], HB.out⟩
            case measure => simp [intOf]; omega
          · rw [if_neg ze] at ho
            have zb : (o == []) = false := by simp [ze]
            have c1 := fun w => cat2 (P := Tryz.prog) o [32] (by omega) (by decide) w
            have c2 := fun w => cat2 (P := Tryz.prog) (o ++ [32]) [49, 32] (by simp; omega) (by decide) w
            have c3 := fun w => cat2 (P := Tryz.prog) (o ++ [32] ++ [49, 32]) one (by simp; omega) (by omega) w
            obtain ⟨o1, ho1⟩ : ∃ x, o ++ [32] = x := ⟨_, rfl⟩
            rw [ho1] at c1 c2 c3 ho
            obtain ⟨o2, ho2⟩ : ∃ x, o1 ++ [49, 32] = x := ⟨_, rfl⟩
            rw [ho2] at c2 c3 ho
            obtain ⟨o3, ho3⟩ : ∃ x, o2 ++ one = x := ⟨_, rfl⟩
            rw [ho3] at c3 ho
            have HO := Lib.hid ho
            clear ho ho1 ho2 ho3 ze
            go_wp2_with fail
            go_roundw
            case rel => exact ⟨k + 1, by omega, by go_num, by rw [HR.out], by rw [HO.out], HB.out⟩
            case measure => simp [intOf]; omega
        · rw [if_neg z1] at ho
          have t1 : (q == 1) = false := beq_eq_false_iff_ne.2 z1
          have hT := fun W => rdigits_int q hq0 (by omega) W
          have lT := itoa_len hq0 (by omega)
          obtain ⟨T, hTT⟩ : ∃ T, Lib.itoa q = T := ⟨_, rfl⟩
          rw [hTT] at hT lT ho
          simp only [sv_def] at hT
          have HT := Lib.hid hT
          clear hT hTT z0 z1
          by_cases ze : o = []
          · subst ze
            rw [if_pos rfl, List.nil_append] at ho
            have c2 := fun w => cat2 (P := Tryz.prog) [] T (by decide) (by omega) w
            rw [List.nil_append] at c2
            have c3 := fun w => cat2 (P := Tryz.prog) T [32] (by omega) (by decide) w
            have c4 := fun w => cat2 (P := Tryz.prog) (T ++ [32]) many (by simp; omega) (by omega) w
            obtain ⟨o3, ho3⟩ : ∃ x, T ++ [32] = x := ⟨_, rfl⟩
            rw [ho3] at c3 c4 ho
            obtain ⟨o4, ho4⟩ : ∃ x, o3 ++ many = x := ⟨_, rfl⟩
            rw [ho4] at c4 ho
            have HO := Lib.hid ho
            clear ho ho3 ho4
            go_wp2_with fail
            have hbZ : Below w.heap.size w wr.drew := HB.out.drew
            go_region_held3 (fun V => V.cell? ⟨gm, k, none⟩ = some (.string ⟨many.toArray⟩))
              (first
                | ((try dsimp only); first | (with_reducible exact EM.out _ hbD) | (with_reducible exact EM.out _ hbZ)))
              (first
                | (go_at_call 52; refine (HT.out _).mono ?_; rintro e wD ⟨rfl, hbd⟩; have hbD : Below w.heap.size w wD := hbZ.trans (hbd.mono hbZ.size)))
            all_goals
              go_wp2_with fail
              go_roundw
              case rel => exact ⟨k + 1, by omega, by go_num, by rw [HR.out], by rw [HO.out], hbD⟩
              case measure => simp [intOf]; omega
          · rw [if_neg ze] at ho
            have zb : (o == []) = false := by simp [ze]
            have c1 := fun w => cat2 (P := Tryz.prog) o [32] (by omega) (by decide) w
            have c2 := fun w => cat2 (P := Tryz.prog) (o ++ [32]) T (by simp; omega) (by omega) w
            have c3 := fun w => cat2 (P := Tryz.prog) (o ++ [32] ++ T) [32] (by simp; omega) (by decide) w
            have c4 := fun w => cat2 (P := Tryz.prog) (o ++ [32] ++ T ++ [32]) many (by simp; omega) (by omega) w
            obtain ⟨o1, ho1⟩ : ∃ x, o ++ [32] = x := ⟨_, rfl⟩
            rw [ho1] at c1 c2 c3 c4 ho
            obtain ⟨o2, ho2⟩ : ∃ x, o1 ++ T = x := ⟨_, rfl⟩
            rw [ho2] at c2 c3 c4 ho
            obtain ⟨o3, ho3⟩ : ∃ x, o2 ++ [32] = x := ⟨_, rfl⟩
            rw [ho3] at c3 c4 ho
            obtain ⟨o4, ho4⟩ : ∃ x, o3 ++ many = x := ⟨_, rfl⟩
            rw [ho4] at c4 ho
            have HO := Lib.hid ho
            clear ho ho1 ho2 ho3 ho4 ze
            go_wp2_with fail
            have hbZ : Below w.heap.size w wr.drew := HB.out.drew
            go_region_held3 (fun V => V.cell? ⟨gm, k, none⟩ = some (.string ⟨many.toArray⟩))
              (first
                | ((try dsimp only); first | (with_reducible exact EM.out _ hbD) | (with_reducible exact EM.out _ hbZ)))
              (first
                | (go_at_call 52; refine (HT.out _).mono ?_; rintro e wD ⟨rfl, hbd⟩; have hbD : Below w.heap.size w wD := hbZ.trans (hbd.mono hbZ.size)))
            all_goals
              go_wp2_with fail
              go_roundw
              case rel => exact ⟨k + 1, by omega, by go_num, by rw [HR.out], by rw [HO.out], hbD⟩
              case measure => simp [intOf]; omega
    · obtain rfl : k = us.length := by omega
      have hk5 : decide ((us.length : Int) < (us.length : Int)) = false := decide_eq_false (by omega)
      rw [List.take_length]
      obtain ⟨o, hoo⟩ : ∃ o, Cs.outF us n = o := ⟨_, rfl⟩
      have hF := HF.out
      rw [hoo] at hF ⊢
      by_cases hz : o = []
      · subst hz
        rw [if_pos rfl] at hF
        subst hF
        clear hoo hB hlt hk HF
        go_wp2_with fail
        go_ret
        exact ⟨rfl, HB.out⟩
      · rw [if_neg hz] at hF
        subst hF
        have hz1 : (o == []) = false := by simp [hz]
        clear hoo hB hlt hk hz HF
        go_wp2_with fail
        go_ret
        exact ⟨rfl, HB.out⟩

end Go.Proofs.YtncdeogpmodoaabGreatDoor
