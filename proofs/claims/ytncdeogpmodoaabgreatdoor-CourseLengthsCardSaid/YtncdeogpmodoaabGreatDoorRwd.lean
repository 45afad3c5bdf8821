/-
  The reference's words and number.
-/
import Derived.Test.YtncdeogpmodoaabGreatDoorRle
import Derived.Test.YtncdeogpmodoaabGreatDoorCnt
set_option linter.unusedVariables false
set_option linter.unusedSimpArgs false
namespace Go.Proofs.YtncdeogpmodoaabGreatDoor
open Go.RowKit
set_option maxRecDepth 100000

namespace Cs
/-- Cut at blanks, with the word so far in hand. -/
def cutA : Bs → Bs → List Bs
  | cur, [] => [cur]
  | cur, c :: r => if c = 32 then cur :: cutA [] r else cutA (cur ++ [c]) r
theorem cutA_eq (r : Bs) : ∀ cur : Bs, cutA cur r = (match cutF r with | [] => [cur] | x :: t => (cur ++ x) :: t) := by
  induction r with
  | nil => intro cur; simp [cutA, cutF]
  | cons c r ih =>
    intro cur
    rw [cutA, cutF]
    by_cases hc : c = 32
    · rw [if_pos hc, if_pos hc, ih []]
      simp only [List.append_nil]
      congr 1
      cases h : cutF r with
      | nil => exact absurd h (cutF_ne r)
      | cons x t => simp
    · rw [if_neg hc, if_neg hc, ih]
      cases h : cutF r with
      | nil => exact absurd h (cutF_ne r)
      | cons x t => simp
theorem cutA_nil (s : Bs) : cutA [] s = cutF s := by
  rw [cutA_eq]
  cases h : cutF s with
  | nil => exact absurd h (cutF_ne s)
  | cons x t => simp
theorem cutF_len (s : Bs) : (cutF s).length ≤ s.length + 1 := by
  induction s with
  | nil => simp [cutF]
  | cons c r ih =>
    rw [cutF]
    split
    · simp; omega
    · split
      · simp
      · rename_i x t h
        rw [h] at ih
        simp at ih ⊢
        omega
end Cs

theorem byte_at {s : Cs.Bs} {k : Nat} (hk : k < s.length) (h : k < (⟨s.toArray⟩ : ByteArray).size) : (⟨s.toArray⟩ : ByteArray)[k] = s[k] := by
  simp [ByteArray.getElem_eq_getElem_data]
theorem text_cut (s : Cs.Bs) (f k : Nat) : (⟨s.toArray⟩ : ByteArray).extract f k = ⟨((s.take k).drop f).toArray⟩ := by
  have : ((⟨s.toArray⟩ : ByteArray).extract f k).data = ((s.take k).drop f).toArray := by
    rw [ByteArray.data_extract]
    simp [List.extract_eq_take_drop, List.drop_take]
  cases h : (⟨s.toArray⟩ : ByteArray).extract f k
  rw [h] at this
  simp only at this
  rw [this]

/-- append of one value that lies in a new block of its own. -/
theorem wpList_app1 {P : Program} {ops : Array Oper} {rest : List Oper} {o : Oper} {a : Act} {Q : Exit → Act → World → Prop} (hgd : o.guard = none) (s x : Operand) (t : TypeId)
    (ho : o.op = .call { callee := .builtin .append, args := #[s, x], argTypes := #[t, t] })
    (e : TypeId) (i : TypeInfo) (z : Value) (bytes : Nat) (ht : P.underlying t = some (.slice e)) (hi : P.info? e = some i) (hz : i.zero = some z) (hsize : i.size = 1) (hby : i.bytes = bytes) (hzs : z.cells.size = 1)
    (base : Nat) (v : Value) (n : Nat) (xs : List Value) (u : Value) (w : World) (hs : a.eval s = v) (hown : w.ownsRow base e 1 v n xs) (hx : a.eval x = .slice (some ⟨w.heap.size, 0, none⟩) 1 1) (h1 : u.oneCell' = true)
    (h63 : n + 1 ≤ maxLen) (hbytes : (n + 1) * bytes ≤ 140737488355328) (hbase : base ≤ w.heap.size)
    (h : ∀ v' w', w'.ownsRow base e 1 v' (n + 1) (xs ++ [u]) → Below base w w' → wpList P ops Q rest (a.put o.dst v') w') :
    wpList P ops Q (o :: rest) a (w.alloc (.cells #[u] e)) := by
  refine wpList_append_lies (w.alloc (.cells #[u] e)) hgd s x t ho base e i z 1 bytes ht hi hz hsize hby hzs (by omega) v n xs hs (hown.alloc _) ⟨w.heap.size, 0, none⟩ 1 1 [u] hx rfl (World.news_of_block (cs := #[u]) (t := e) (fr := (0, 0)) (World.alloc_heap_new _ _)) (by simpa using h1) (by omega) h63 hbytes (by simp; omega) (w.heap.size + 1) (by simp)
    fun g cap w' h2 h3 h4 h5 => h _ w' h2 ?_
  have hb := (Below.refl base w).alloc hbase (.cells #[u] e)
  exact below_own hb (Nat.le_refl _) h3 (fun r e => (hown.lt r e).1) (by simp; omega)

set_option maxHeartbeats 8000000 in
theorem words_any (s : Cs.Bs) (hs : s.length ≤ 1000000) (w : World) :
    Calls Tryz.prog 64 #[.string ⟨s.toArray⟩] w fun e w' => ∃ A c, e = .returned (.slice A (Cs.cutF s).length c) ∧ Rd w' w'.heap.size 1 A (Cs.cutF s).length (wcells (Cs.cutF s)) ∧ Below w.heap.size w w' := by
  obtain ⟨i0, hi0, hz0, hz1, hz2⟩ := info_parts infoS
  go_enter Tryz.func64, Tryz.ntmps64
  go_wp2_with fail
  go_loopw [3, 4, 5] (fun V F I wr => ∃ (k f : Nat) (ws : List Cs.Bs), k ≤ s.length ∧ f ≤ k ∧ ws.length ≤ k ∧ I = .int .i64 k ∧ F = .int .i64 f ∧ wr.ownsRow w.heap.size 9 1 V ws.length (wcells ws) ∧ ws ++ Cs.cutA ((s.take k).drop f) (s.drop k) = Cs.cutF s ∧ Below w.heap.size w wr) (fun _ _ I _ => s.length - (intOf I).toNat)
  case atStart => exact ⟨0, 0, [], Nat.zero_le _, Nat.le_refl _, Nat.le_refl _, rfl, rfl, World.ownsRow_nil _ _ _ _, Cs.cutA_nil s, Below.refl _ _⟩
  case round =>
    obtain ⟨k, f, ws, hk, hf, hws, rfl, rfl, hown, hF, hB⟩ := hrel
    have hBs := hB.size
    by_cases hlt : k < s.length
    · have hk5 : decide ((k : Int) < (s.length : Int)) = true := decide_eq_true (by omega)
      obtain ⟨c, hc⟩ : ∃ c, s[k] = c := ⟨_, rfl⟩
      have hx : (⟨s.toArray⟩ : ByteArray)[k]'(by show k < s.toArray.size; simpa using hlt) = c := by rw [byte_at hlt]; exact hc
      have htk : s.take (k + 1) = s.take k ++ [c] := by rw [List.take_succ_eq_append_getElem hlt, hc]
      have hdk : s.drop k = c :: s.drop (k + 1) := by rw [← hc]; exact List.drop_eq_getElem_cons hlt
      have hdt : (s.take (k + 1)).drop f = (s.take k).drop f ++ [c] := by
        rw [htk, List.drop_append_of_le_length (by rw [List.length_take]; omega)]
      have htx := text_cut s f k
      have hpl : ((s.take k).drop f).length ≤ 1000000 := by rw [List.length_drop, List.length_take]; omega
      rw [hdk, Cs.cutA] at hF
      by_cases h32 : c = 32
      · rw [if_pos h32] at hF
        have hb : ((c.toNat : Int) == 32) = true := by rw [h32]; rfl
        have hdz : (s.take (k + 1)).drop (k + 1) = [] := by rw [List.drop_eq_nil_iff, List.length_take]; omega
        obtain ⟨x, hxx⟩ : ∃ x, (s.take k).drop f = x := ⟨_, rfl⟩
        rw [hxx] at htx hF
        have HF := Lib.hid (show ws ++ [x] ++ Cs.cutA ((s.take (k + 1)).drop (k + 1)) (s.drop (k + 1)) = Cs.cutF s by rw [hdz, List.append_assoc]; exact hF)
        have HB := Lib.hid hB
        have hfk : decide ((f : Int) ≤ (k : Int)) = true := decide_eq_true (by omega)
        clear hF hdz hdt hdk htk hc hxx h32 hB hpl
        go_wp2_with (at_builtin; refine wpList_app1 rfl _ _ 71 rfl 9 i0 _ 16 Tryz.underlying71 hi0 hz0 hz1 hz2 rfl w.heap.size u3 _ _ _ _ rfl hown rfl rfl (by unfold maxLen; omega) (by omega) hBs ?_; intro v' W2 hv2 hb2)
        have HB2 := Lib.hid (HB.out.trans (hb2.mono (Nat.le_refl _)))
        have HV := Lib.hid hv2
        clear hv2 hb2 hown
        go_wp2_with fail
        go_roundw
        case rel => exact ⟨k + 1, k + 1, ws ++ [x], by omega, Nat.le_refl _, by simp; omega, by go_num, by go_num, by rw [List.length_append]; simpa [wcells, sv] using HV.out, HF.out, HB2.out⟩
        case measure => simp [intOf]; omega
      · rw [if_neg h32, ← hdt] at hF
        have hb : ((c.toNat : Int) == 32) = false := by
          rw [beq_eq_false_iff_ne]
          intro e
          exact h32 (UInt8.toNat_inj.1 (by show c.toNat = 32; omega))
        have HF := Lib.hid hF
        have HB := Lib.hid hB
        have HO := Lib.hid hown
        clear hF hdt hdk htk hc h32 hB hown htx
        go_wp2_with fail
        go_roundw
        case rel => exact ⟨k + 1, f, ws, by omega, by omega, by omega, by go_num, rfl, HO.out, HF.out, HB.out⟩
        case measure => simp [intOf]; omega
    · obtain rfl : k = s.length := by omega
      have hk5 : decide ((s.length : Int) < (s.length : Int)) = false := decide_eq_false (by omega)
      rw [List.drop_length, List.take_length, Cs.cutA] at hF
      have htx := text_cut s f s.length
      rw [List.take_length] at htx
      obtain ⟨x, hxx⟩ : ∃ x, s.drop f = x := ⟨_, rfl⟩
      rw [hxx] at htx hF
      have HF := Lib.hid hF
      have HB := Lib.hid hB
      clear hF hxx hB
      go_wp2_with (at_builtin; refine wpList_app1 rfl _ _ 71 rfl 9 i0 _ 16 Tryz.underlying71 hi0 hz0 hz1 hz2 rfl w.heap.size u3 _ _ _ _ rfl hown rfl rfl (by unfold maxLen; omega) (by omega) hBs ?_; intro v' W2 hv2 hb2)
      have HB2 := Lib.hid (HB.out.trans (hb2.mono (Nat.le_refl _)))
      have hl2 : ws.length + 1 = (Cs.cutF s).length := by rw [← HF.out]; simp
      have hl3 : wcells ws ++ [.string ⟨x.toArray⟩] = wcells (Cs.cutF s) := by rw [← HF.out]; simp [wcells, sv]
      rw [hl2, hl3] at hv2
      obtain ⟨A', c', hv6, hrd, _⟩ := ownB_rd hv2 (by simp [wcells])
      subst hv6
      clear hv2 hb2 hown
      go_wp2_with fail
      go_ret
      exact ⟨A', c', rfl, hrd, HB2.out⟩

end Go.Proofs.YtncdeogpmodoaabGreatDoor
