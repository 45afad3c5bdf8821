/-
  The reference's counted, Links and Area.
-/
import Derived.Test.YtncdeogpmodoaabGreatDoorRnu
import Derived.Test.YtncdeogpmodoaabGreatDoorSum
set_option linter.unusedVariables false
set_option linter.unusedSimpArgs false
namespace Go.Proofs.YtncdeogpmodoaabGreatDoor
open Go.RowKit
set_option maxRecDepth 100000

namespace Cs
theorem rdig_range {l : Bs} : ∀ {a : Int} {m : Nat} {v : Int}, 0 ≤ a → a < 10 ^ m → rdigF a l = some v → 0 ≤ v ∧ v < 10 ^ (m + l.length) := by
  induction l with
  | nil =>
    intro a m v h0 h1 h
    simp only [rdigF, Option.some.injEq] at h
    subst h
    exact ⟨h0, by simpa using h1⟩
  | cons c r ih =>
    intro a m v h0 h1 h
    rw [rdigF] at h
    split at h
    · rename_i hc
      have hp : (10 : Int) ^ (m + 1) = 10 ^ m * 10 := Int.pow_succ _ _
      have := ih (a := 10 * a + (c.toNat : Int) - 48) (m := m + 1) (by omega) (by rw [hp]; omega) h
      rw [List.length_cons, show m + (r.length + 1) = m + 1 + r.length by omega]
      exact this
    · cases h
theorem rnum_range {l : Bs} {v : Int} (h : rnumF l = some v) : 0 ≤ v ∧ v < 1000000000000 := by
  unfold rnumF at h
  split at h
  · cases h
  · rename_i hl
    obtain ⟨h0, h1⟩ := rdig_range (a := 0) (m := 0) (by decide) (by decide) h
    refine ⟨h0, ?_⟩
    have h2 := Nat.pow_le_pow_right (n := 10) (by decide) (show 0 + l.length ≤ 12 by omega)
    have e : ((10 ^ (0 + l.length) : Nat) : Int) = (10 : Int) ^ (0 + l.length) := by simp
    have e2 : ((10 ^ 12 : Nat) : Int) = 1000000000000 := by simp
    omega
theorem rsize_range {us : List Un} (hus : ∀ x ∈ us, 0 < x.size ∧ x.size ≤ 100000) (b : Bs) : ∀ {z : Int}, 0 ≤ z → z ≤ 100000 → 0 ≤ rsizeF z us b ∧ rsizeF z us b ≤ 100000 := by
  induction us with
  | nil => intro z h0 h1; exact ⟨h0, h1⟩
  | cons u r ih =>
    intro z h0 h1
    have hu := hus u List.mem_cons_self
    rw [rsizeF]
    split
    · exact ih (fun x hx => hus x (List.mem_cons_of_mem _ hx)) (by omega) hu.2
    · exact ih (fun x hx => hus x (List.mem_cons_of_mem _ hx)) h0 h1
theorem rsize_step {us : List Un} {k : Nat} (hk : k < us.length) (z : Int) (b : Bs) : rsizeF z (us.drop k) b = rsizeF (if b = us[k].many ∨ b = us[k].one then us[k].size else z) (us.drop (k + 1)) b := by
  rw [List.drop_eq_getElem_cons hk, rsizeF]
end Cs

theorem rd_text {w : World} {B : Nat} {A : Option Addr} {ws : List Cs.Bs} (h : Rd w B 1 A ws.length (wcells ws)) (h0 : 0 < ws.length) :
    ∃ b off, A = some ⟨b, off, none⟩ ∧ b < B ∧ ∀ k (hk : k < ws.length), w.cell? ⟨b, off + k, none⟩ = some (.string ⟨ws[k].toArray⟩) := by
  obtain ⟨b, off, e, hb, hc⟩ := h.2 h0
  refine ⟨b, off, e, hb, fun k hk => ?_⟩
  rw [hc k (by omega)]
  simp [wcells, sv, hk]

theorem cut_short (s : Cs.Bs) : ∀ x ∈ Cs.cutF s, x.length ≤ s.length := by
  induction s with
  | nil => intro x hx; simp [Cs.cutF] at hx; simp [hx]
  | cons c r ih =>
    intro x hx
    rw [Cs.cutF] at hx
    split at hx
    · rcases List.mem_cons.1 hx with rfl | hx
      · simp
      · have := ih x hx; simp; omega
    · split at hx
      · rw [List.mem_singleton.1 hx]; simp
      · rename_i y t h
        rcases List.mem_cons.1 hx with rfl | hx
        · have := ih y (by rw [h]; exact List.mem_cons_self)
          simp; omega
        · have := ih x (by rw [h]; exact List.mem_cons_of_mem _ hx)
          simp; omega

/-- What counted's loops keep: the world as the words were cut, but for draws. -/
structure Cnt (w W : World) (gs gm go : Nat) (us : List Cs.Un) (b off : Nat) (ws : List Cs.Bs) : Prop where
  bl : Below w.heap.size w W
  ks : Bk W gs 3 (us.map fun u => Value.int .i64 u.size).toArray
  km : Bk W gm 9 (us.map fun u => sv u.many).toArray
  ko : Bk W go 9 (us.map fun u => sv u.one).toArray
  hw : ∀ k (hk : k < ws.length), W.cell? ⟨b, off + k, none⟩ = some (.string ⟨ws[k].toArray⟩)
  lb : b < W.heap.size
theorem Cnt.drewN {w W : World} {gs gm go : Nat} {us : List Cs.Un} {b off : Nat} {ws : List Cs.Bs} (h : Cnt w W gs gm go us b off ws) (n : Nat) : Cnt w (W.drewN n) gs gm go us b off ws :=
  ⟨⟨h.bl.os, h.bl.tape, h.bl.output, h.bl.size, h.bl.block⟩, h.ks, h.km, h.ko, h.hw, h.lb⟩

set_option maxHeartbeats 16000000 in
theorem rcounted_any (us : List Cs.Un) (hus : ∀ x ∈ us, 0 < x.size ∧ x.size ≤ 100000) (gs gm go : Nat) (s : Cs.Bs) (hs : s.length ≤ 1000000) (h4 : us.length ≤ 4) (w : World)
    (ks : Bk w gs 3 (us.map fun u => Value.int .i64 u.size).toArray) (km : Bk w gm 9 (us.map fun u => sv u.many).toArray) (ko : Bk w go 9 (us.map fun u => sv u.one).toArray) :
    Calls Tryz.prog 44 #[.string ⟨s.toArray⟩, .slice (some ⟨gs, 0, none⟩) us.length us.length, .slice (some ⟨gm, 0, none⟩) us.length us.length, .slice (some ⟨go, 0, none⟩) us.length us.length] w fun e w' =>
      e = .returned (.tuple #[.int .i64 ((Cs.rcntF us s).getD 0), .bool (Cs.rcntF us s).isSome]) ∧ Below w.heap.size w w' := by
  have hwd := words_any s hs w
  have hcl := Cs.cutF_len s
  have hce := Cs.cutF_ne s
  have hF : Cs.rcntF us s = if (Cs.cutF s).length % 2 ≠ 0 ∨ 8 < (Cs.cutF s).length then none else Cs.rsumF us 0 (Cs.cutF s) := rfl
  have hcs : ∀ x ∈ Cs.cutF s, x.length ≤ 1000000 := fun x hx => Nat.le_trans (cut_short s x hx) hs
  obtain ⟨R, hR⟩ : ∃ R, Cs.rcntF us s = R := ⟨_, rfl⟩
  rw [hR] at hF ⊢
  obtain ⟨ws, hws⟩ : ∃ ws, Cs.cutF s = ws := ⟨_, rfl⟩
  rw [hws] at hwd hcl hce hF hcs
  have hpos : 0 < ws.length := by cases ws with | nil => exact absurd rfl hce | cons x y => simp
  have HWD := Lib.hid hwd
  have HC := Lib.hid hcs
  have HUS := Lib.hid hus
  have HKS := Lib.hid ks
  have HKM := Lib.hid km
  have HKO := Lib.hid ko
  clear hwd hR hws hce hcs hus ks km ko
  have htm : ((ws.length : Int)).tmod 2 = ((ws.length % 2 : Nat) : Int) := by rw [Int.tmod_eq_emod_of_nonneg (by omega)]; omega
  by_cases hbad : ws.length % 2 ≠ 0 ∨ 8 < ws.length
  · rw [if_pos hbad] at hF
    subst hF
    rcases m0 : ((ws.length : Int) % 2 != 0) with _ | _
    · have m1 : decide (8 < (ws.length : Int)) = true := decide_eq_true (by simp at m0; omega)
      clear hbad
      go_enter Tryz.func44, Tryz.ntmps44
      go_wp2_with fail
      refine HWD.out.mono ?_
      rintro e w1 ⟨A, c, rfl, hrd, hb⟩
      have HB := Lib.hid hb
      clear hrd hb
      go_wp2_with fail
      go_ret2
      exact ⟨rfl, HB.out⟩
    · clear hbad
      go_enter Tryz.func44, Tryz.ntmps44
      go_wp2_with fail
      refine HWD.out.mono ?_
      rintro e w1 ⟨A, c, rfl, hrd, hb⟩
      have HB := Lib.hid hb
      clear hrd hb
      go_wp2_with fail
      go_ret2
      exact ⟨rfl, HB.out⟩
  · rw [if_neg hbad] at hF
    have hev : ws.length % 2 = 0 := by omega
    have h8 : ws.length ≤ 8 := by omega
    have HF := Lib.hid hF
    have m0 : ((ws.length : Int) % 2 != 0) = false := by simp; omega
    have m1 : decide (8 < (ws.length : Int)) = false := decide_eq_false (by omega)
    clear hbad hF
    go_enter Tryz.func44, Tryz.ntmps44
    go_wp2_with fail
    refine HWD.out.mono ?_
    rintro e w1 ⟨A, c, rfl, hrd, hb⟩
    obtain ⟨b, off, rfl, hlb, hcw⟩ := rd_text hrd hpos
    have CN := Lib.hid (show Cnt w w1 gs gm go us b off ws from ⟨hb, HKS.out.below hb HKS.out.lt, HKM.out.below hb HKM.out.lt, HKO.out.below hb HKO.out.lt, hcw, hlb⟩)
    clear hrd hb hlb hcw HWD HKS HKM HKO
    go_wp2_with fail
    go_loopw [11, 12, 13, 14, 15, 16] (fun N I _ _ _ _ wr => ∃ (q : Nat) (a : Int), q ≤ ws.length ∧ q % 2 = 0 ∧ I = .int .i64 q ∧ N = .int .i64 a ∧ 0 ≤ a ∧ a ≤ q * 1000000000000 ∧ Cs.rsumF us a (ws.drop q) = R ∧ Cnt w wr gs gm go us b off ws) (fun _ I _ _ _ _ _ => ws.length - (intOf I).toNat)
    case atStart => exact ⟨0, 0, Nat.zero_le _, rfl, rfl, rfl, by omega, by omega, HF.out.symm, CN.out⟩
    case round =>
      clear CN HF
      obtain ⟨q, a, hq, hq2, rfl, rfl, a0, a1, hF, hC⟩ := hrel
      have C1 := Lib.hid hC
      by_cases hlt : q < ws.length
      · have hq1 : q + 1 < ws.length := by omega
        have hk5 : decide ((q : Int) < (ws.length : Int)) = true := decide_eq_true (by omega)
        have hdr : ws.drop q = ws[q] :: ws[q + 1] :: ws.drop (q + 2) := by
          rw [List.drop_eq_getElem_cons hlt, List.drop_eq_getElem_cons hq1]
        rw [hdr, Cs.rsumF] at hF
        have e0 := hC.hw q hlt
        have E1 := Lib.hid (fun W (h : Cnt w W gs gm go us b off ws) => h.hw (q + 1) hq1)
        have lx := HC.out _ (List.getElem_mem hlt)
        obtain ⟨x, hx⟩ : ∃ x, ws[q] = x := ⟨_, rfl⟩
        obtain ⟨y, hy⟩ : ∃ y, ws[q + 1] = y := ⟨_, rfl⟩
        rw [hx] at e0 hF lx
        rw [hy] at hF E1
        have lb := hC.lb
        have hnum := fun W => rnumber_any x lx W
        have hsz := Cs.rsize_range HUS.out y (z := 0) (by decide) (by decide)
        obtain ⟨Z, hZ⟩ : ∃ Z, Cs.rsizeF 0 us y = Z := ⟨_, rfl⟩
        rw [hZ] at hF hsz
        have HZ := Lib.hid hZ
        have HNUM := Lib.hid hnum
        have HF := Lib.hid hF
        have hql : q + 1 < ws.length := hq1
        clear hF hdr hx hy hC hnum hZ
        rcases hnx : Cs.rnumF x with _ | kx
        · have HNX := Lib.hid hnx
          clear hnx
          go_wp2_with fail
          refine (HNUM.out _).mono ?_
          rw [HNX.out]
          rintro e w' ⟨rfl, rfl⟩
          simp only [Option.getD_some, Option.getD_none, Option.isSome_some, Option.isSome_none]
          clear e0
          go_wp2_with fail
          go_loopw [15, 16] (fun S J wx => ∃ (j : Nat) (z : Int), j ≤ us.length ∧ J = .int .i64 j ∧ S = .int .i64 z ∧ 0 ≤ z ∧ z ≤ 100000 ∧ Cs.rsizeF z (us.drop j) y = Z ∧ Cnt w wx gs gm go us b off ws) (fun _ J _ => us.length - (intOf J).toNat)
          case atStart => exact ⟨0, 0, Nat.zero_le _, rfl, rfl, by decide, by decide, HZ.out, C1.out⟩
          case round =>
            clear C1 HZ
            obtain ⟨j, z, hj, rfl, rfl, z0, z1, hZ, hC⟩ := hrel
            have C1 := Lib.hid hC
            by_cases hjl : j < us.length
            · have hj5 : decide ((j : Int) < (us.length : Int)) = true := decide_eq_true (by omega)
              have hu := HUS.out _ (List.getElem_mem hjl)
              rw [Cs.rsize_step hjl] at hZ
              have f1 := E1.out _ hC
              have f2 := text_at (f := fun u => u.many) hC.km hjl
              have f3 := text_at (f := fun u => u.one) hC.ko hjl
              have f4 := size_at hC.ks hjl
              have g1 := hC.ks.lt
              have g2 := hC.km.lt
              have g3 := hC.ko.lt
              have g4 := hC.lb
              obtain ⟨⟨one, many, sz⟩, huk⟩ : ∃ u, us[j] = u := ⟨_, rfl⟩
              rw [huk] at hZ f2 f3 f4 hu
              dsimp only at hZ f2 f3 f4 hu
              clear huk hC
              obtain ⟨u0, u1⟩ := hu
              by_cases c1 : y = many
              · have b1 : (y == many) = true := by simp [c1]
                rw [if_pos (.inl c1)] at hZ
                have HZ := Lib.hid hZ
                clear hZ c1
                go_wp2_with fail
                go_quiet (fail)
                go_wp2_with fail
                go_roundw
                case rel => exact ⟨j + 1, sz, by omega, by go_num, rfl, by omega, u1, HZ.out, C1.out.drewN _⟩
                case measure => simp [intOf]; omega
              · have b1 : (y == many) = false := by simp [c1]
                by_cases c2 : y = one
                · have b2 : (y == one) = true := by simp [c2]
                  rw [if_pos (.inr c2)] at hZ
                  have HZ := Lib.hid hZ
                  clear hZ c1 c2
                  go_wp2_with fail
                  go_quiet (fail)
                  go_wp2_with fail
                  go_roundw
                  case rel => exact ⟨j + 1, sz, by omega, by go_num, rfl, by omega, u1, HZ.out, C1.out.drewN _⟩
                  case measure => simp [intOf]; omega
                · have b2 : (y == one) = false := by simp [c2]
                  rw [if_neg (by rintro (h | h); exact c1 h; exact c2 h)] at hZ
                  have HZ := Lib.hid hZ
                  clear hZ c1 c2
                  go_wp2_with fail
                  go_quiet (fail)
                  go_wp2_with fail
                  go_roundw
                  case rel => exact ⟨j + 1, z, by omega, by go_num, rfl, z0, z1, HZ.out, C1.out.drewN _⟩
                  case measure => simp [intOf]; omega
            · obtain rfl : j = us.length := by omega
              have hj5 : decide ((us.length : Int) < (us.length : Int)) = false := decide_eq_false (by omega)
              rw [List.drop_length] at hZ
              have hZ' : z = Z := hZ
              subst hZ'
              clear hC hZ
              have hfin := HF.out
              rw [HNX.out] at hfin
              have HFN := Lib.hid (show (none : Option Int) = R from hfin)
              clear hfin
              go_wp2_with fail
              go_ret2
              have h := HFN.out
              subst h
              exact ⟨rfl, C1.out.bl⟩
        · have hkr := Cs.rnum_range hnx
          have HNX := Lib.hid hnx
          clear hnx
          by_cases hz : Z = 0 ∨ 1000000000000 / Z < kx
          · by_cases hz0 : Z = 0
            · subst hz0
              go_wp2_with fail
              refine (HNUM.out _).mono ?_
              rw [HNX.out]
              rintro e w' ⟨rfl, rfl⟩
              simp only [Option.getD_some, Option.getD_none, Option.isSome_some, Option.isSome_none]
              clear e0
              go_wp2_with fail
              go_loopw [15, 16] (fun S J wx => ∃ (j : Nat) (z : Int), j ≤ us.length ∧ J = .int .i64 j ∧ S = .int .i64 z ∧ 0 ≤ z ∧ z ≤ 100000 ∧ Cs.rsizeF z (us.drop j) y = 0 ∧ Cnt w wx gs gm go us b off ws) (fun _ J _ => us.length - (intOf J).toNat)
              case atStart => exact ⟨0, 0, Nat.zero_le _, rfl, rfl, by decide, by decide, HZ.out, C1.out⟩
              case round =>
                clear C1 HZ
                obtain ⟨j, z, hj, rfl, rfl, z0, z1, hZ, hC⟩ := hrel
                have C1 := Lib.hid hC
                by_cases hjl : j < us.length
                · have hj5 : decide ((j : Int) < (us.length : Int)) = true := decide_eq_true (by omega)
                  have hu := HUS.out _ (List.getElem_mem hjl)
                  rw [Cs.rsize_step hjl] at hZ
                  have f1 := E1.out _ hC
                  have f2 := text_at (f := fun u => u.many) hC.km hjl
                  have f3 := text_at (f := fun u => u.one) hC.ko hjl
                  have f4 := size_at hC.ks hjl
                  have g1 := hC.ks.lt
                  have g2 := hC.km.lt
                  have g3 := hC.ko.lt
                  have g4 := hC.lb
                  obtain ⟨⟨one, many, sz⟩, huk⟩ : ∃ u, us[j] = u := ⟨_, rfl⟩
                  rw [huk] at hZ f2 f3 f4 hu
                  dsimp only at hZ f2 f3 f4 hu
                  clear huk hC
                  obtain ⟨u0, u1⟩ := hu
                  by_cases c1 : y = many
                  · have b1 : (y == many) = true := by simp [c1]
                    rw [if_pos (.inl c1)] at hZ
                    have HZ := Lib.hid hZ
                    clear hZ c1
                    go_wp2_with fail
                    go_quiet (fail)
                    go_wp2_with fail
                    go_roundw
                    case rel => exact ⟨j + 1, sz, by omega, by go_num, rfl, by omega, u1, HZ.out, C1.out.drewN _⟩
                    case measure => simp [intOf]; omega
                  · have b1 : (y == many) = false := by simp [c1]
                    by_cases c2 : y = one
                    · have b2 : (y == one) = true := by simp [c2]
                      rw [if_pos (.inr c2)] at hZ
                      have HZ := Lib.hid hZ
                      clear hZ c1 c2
                      go_wp2_with fail
                      go_quiet (fail)
                      go_wp2_with fail
                      go_roundw
                      case rel => exact ⟨j + 1, sz, by omega, by go_num, rfl, by omega, u1, HZ.out, C1.out.drewN _⟩
                      case measure => simp [intOf]; omega
                    · have b2 : (y == one) = false := by simp [c2]
                      rw [if_neg (by rintro (h | h); exact c1 h; exact c2 h)] at hZ
                      have HZ := Lib.hid hZ
                      clear hZ c1 c2
                      go_wp2_with fail
                      go_quiet (fail)
                      go_wp2_with fail
                      go_roundw
                      case rel => exact ⟨j + 1, z, by omega, by go_num, rfl, z0, z1, HZ.out, C1.out.drewN _⟩
                      case measure => simp [intOf]; omega
                · obtain rfl : j = us.length := by omega
                  have hj5 : decide ((us.length : Int) < (us.length : Int)) = false := decide_eq_false (by omega)
                  rw [List.drop_length] at hZ
                  have hZ' : z = 0 := hZ
                  subst hZ'
                  clear hC hZ
                  have hfin := HF.out
                  rw [HNX.out] at hfin
                  simp only [] at hfin
                  rw [if_pos (Or.inl trivial)] at hfin
                  have HFN := Lib.hid hfin
                  clear hfin hz
                  go_wp2_with fail
                  go_ret2
                  have h := HFN.out
                  subst h
                  exact ⟨rfl, C1.out.bl⟩
            · have hz1 : 1000000000000 / Z < kx := hz.resolve_left hz0
              have hzp : 0 < Z := by omega
              go_wp2_with fail
              refine (HNUM.out _).mono ?_
              rw [HNX.out]
              rintro e w' ⟨rfl, rfl⟩
              simp only [Option.getD_some, Option.getD_none, Option.isSome_some, Option.isSome_none]
              clear e0
              go_wp2_with fail
              go_loopw [15, 16] (fun S J wx => ∃ (j : Nat) (z : Int), j ≤ us.length ∧ J = .int .i64 j ∧ S = .int .i64 z ∧ 0 ≤ z ∧ z ≤ 100000 ∧ Cs.rsizeF z (us.drop j) y = Z ∧ Cnt w wx gs gm go us b off ws) (fun _ J _ => us.length - (intOf J).toNat)
              case atStart => exact ⟨0, 0, Nat.zero_le _, rfl, rfl, by decide, by decide, HZ.out, C1.out⟩
              case round =>
                clear C1 HZ
                obtain ⟨j, z, hj, rfl, rfl, z0, z1, hZ, hC⟩ := hrel
                have C1 := Lib.hid hC
                by_cases hjl : j < us.length
                · have hj5 : decide ((j : Int) < (us.length : Int)) = true := decide_eq_true (by omega)
                  have hu := HUS.out _ (List.getElem_mem hjl)
                  rw [Cs.rsize_step hjl] at hZ
                  have f1 := E1.out _ hC
                  have f2 := text_at (f := fun u => u.many) hC.km hjl
                  have f3 := text_at (f := fun u => u.one) hC.ko hjl
                  have f4 := size_at hC.ks hjl
                  have g1 := hC.ks.lt
                  have g2 := hC.km.lt
                  have g3 := hC.ko.lt
                  have g4 := hC.lb
                  obtain ⟨⟨one, many, sz⟩, huk⟩ : ∃ u, us[j] = u := ⟨_, rfl⟩
                  rw [huk] at hZ f2 f3 f4 hu
                  dsimp only at hZ f2 f3 f4 hu
                  clear huk hC
                  obtain ⟨u0, u1⟩ := hu
                  by_cases c1 : y = many
                  · have b1 : (y == many) = true := by simp [c1]
                    rw [if_pos (.inl c1)] at hZ
                    have HZ := Lib.hid hZ
                    clear hZ c1
                    go_wp2_with fail
                    go_quiet (fail)
                    go_wp2_with fail
                    go_roundw
                    case rel => exact ⟨j + 1, sz, by omega, by go_num, rfl, by omega, u1, HZ.out, C1.out.drewN _⟩
                    case measure => simp [intOf]; omega
                  · have b1 : (y == many) = false := by simp [c1]
                    by_cases c2 : y = one
                    · have b2 : (y == one) = true := by simp [c2]
                      rw [if_pos (.inr c2)] at hZ
                      have HZ := Lib.hid hZ
                      clear hZ c1 c2
                      go_wp2_with fail
                      go_quiet (fail)
                      go_wp2_with fail
                      go_roundw
                      case rel => exact ⟨j + 1, sz, by omega, by go_num, rfl, by omega, u1, HZ.out, C1.out.drewN _⟩
                      case measure => simp [intOf]; omega
                    · have b2 : (y == one) = false := by simp [c2]
                      rw [if_neg (by rintro (h | h); exact c1 h; exact c2 h)] at hZ
                      have HZ := Lib.hid hZ
                      clear hZ c1 c2
                      go_wp2_with fail
                      go_quiet (fail)
                      go_wp2_with fail
                      go_roundw
                      case rel => exact ⟨j + 1, z, by omega, by go_num, rfl, z0, z1, HZ.out, C1.out.drewN _⟩
                      case measure => simp [intOf]; omega
                · obtain rfl : j = us.length := by omega
                  have hj5 : decide ((us.length : Int) < (us.length : Int)) = false := decide_eq_false (by omega)
                  rw [List.drop_length] at hZ
                  have hZ' : z = Z := hZ
                  subst hZ'
                  clear hC hZ
                  have hfin := HF.out
                  rw [HNX.out] at hfin
                  simp only [] at hfin
                  rw [if_pos (.inr hz1)] at hfin
                  have HFN := Lib.hid hfin
                  have t0 : (z == 0) = false := beq_eq_false_iff_ne.2 hz0
                  have td : (1000000000000 : Int).tdiv z = 1000000000000 / z := Int.tdiv_eq_ediv_of_nonneg (by decide)
                  have q0 : 0 ≤ (1000000000000 : Int) / z := Int.ediv_nonneg (by decide) (by omega)
                  have q1' : (1000000000000 : Int) / z ≤ 1000000000000 := Int.ediv_le_self _ (by decide)
                  obtain ⟨d, hd⟩ : ∃ d, (1000000000000 : Int) / z = d := ⟨_, rfl⟩
                  rw [hd] at td q0 q1' hz1
                  have t1 : decide (d < kx) = true := decide_eq_true hz1
                  clear hfin hz hd
                  go_wp2_with fail
                  go_ret2
                  have h := HFN.out
                  subst h
                  exact ⟨rfl, C1.out.bl⟩
          · have hz0 : ¬ Z = 0 := fun e => hz (.inl e)
            have hz1 : ¬ 1000000000000 / Z < kx := fun e => hz (.inr e)
            have hzp : 0 < Z := by omega
            go_wp2_with fail
            refine (HNUM.out _).mono ?_
            rw [HNX.out]
            rintro e w' ⟨rfl, rfl⟩
            simp only [Option.getD_some, Option.getD_none, Option.isSome_some, Option.isSome_none]
            clear e0
            go_wp2_with fail
            go_loopw [15, 16] (fun S J wx => ∃ (j : Nat) (z : Int), j ≤ us.length ∧ J = .int .i64 j ∧ S = .int .i64 z ∧ 0 ≤ z ∧ z ≤ 100000 ∧ Cs.rsizeF z (us.drop j) y = Z ∧ Cnt w wx gs gm go us b off ws) (fun _ J _ => us.length - (intOf J).toNat)
            case atStart => exact ⟨0, 0, Nat.zero_le _, rfl, rfl, by decide, by decide, HZ.out, C1.out⟩
            case round =>
              clear C1 HZ
              obtain ⟨j, z, hj, rfl, rfl, z0, z1, hZ, hC⟩ := hrel
              have C1 := Lib.hid hC
              by_cases hjl : j < us.length
              · have hj5 : decide ((j : Int) < (us.length : Int)) = true := decide_eq_true (by omega)
                have hu := HUS.out _ (List.getElem_mem hjl)
                rw [Cs.rsize_step hjl] at hZ
                have f1 := E1.out _ hC
                have f2 := text_at (f := fun u => u.many) hC.km hjl
                have f3 := text_at (f := fun u => u.one) hC.ko hjl
                have f4 := size_at hC.ks hjl
                have g1 := hC.ks.lt
                have g2 := hC.km.lt
                have g3 := hC.ko.lt
                have g4 := hC.lb
                obtain ⟨⟨one, many, sz⟩, huk⟩ : ∃ u, us[j] = u := ⟨_, rfl⟩
                rw [huk] at hZ f2 f3 f4 hu
                dsimp only at hZ f2 f3 f4 hu
                clear huk hC
                obtain ⟨u0, u1⟩ := hu
                by_cases c1 : y = many
                · have b1 : (y == many) = true := by simp [c1]
                  rw [if_pos (.inl c1)] at hZ
                  have HZ := Lib.hid hZ
                  clear hZ c1
                  go_wp2_with fail
                  go_quiet (fail)
                  go_wp2_with fail
                  go_roundw
                  case rel => exact ⟨j + 1, sz, by omega, by go_num, rfl, by omega, u1, HZ.out, C1.out.drewN _⟩
                  case measure => simp [intOf]; omega
                · have b1 : (y == many) = false := by simp [c1]
                  by_cases c2 : y = one
                  · have b2 : (y == one) = true := by simp [c2]
                    rw [if_pos (.inr c2)] at hZ
                    have HZ := Lib.hid hZ
                    clear hZ c1 c2
                    go_wp2_with fail
                    go_quiet (fail)
                    go_wp2_with fail
                    go_roundw
                    case rel => exact ⟨j + 1, sz, by omega, by go_num, rfl, by omega, u1, HZ.out, C1.out.drewN _⟩
                    case measure => simp [intOf]; omega
                  · have b2 : (y == one) = false := by simp [c2]
                    rw [if_neg (by rintro (h | h); exact c1 h; exact c2 h)] at hZ
                    have HZ := Lib.hid hZ
                    clear hZ c1 c2
                    go_wp2_with fail
                    go_quiet (fail)
                    go_wp2_with fail
                    go_roundw
                    case rel => exact ⟨j + 1, z, by omega, by go_num, rfl, z0, z1, HZ.out, C1.out.drewN _⟩
                    case measure => simp [intOf]; omega
              · obtain rfl : j = us.length := by omega
                have hj5 : decide ((us.length : Int) < (us.length : Int)) = false := decide_eq_false (by omega)
                rw [List.drop_length] at hZ
                have hZ' : z = Z := hZ
                subst hZ'
                clear hC hZ
                have hfin := HF.out
                rw [HNX.out] at hfin
                simp only [] at hfin
                rw [if_neg hz] at hfin
                have t0 : (z == 0) = false := beq_eq_false_iff_ne.2 hz0
                have td : (1000000000000 : Int).tdiv z = 1000000000000 / z := Int.tdiv_eq_ediv_of_nonneg (by decide)
                have q0 : 0 ≤ (1000000000000 : Int) / z := Int.ediv_nonneg (by decide) (by omega)
                have q1' : (1000000000000 : Int) / z ≤ 1000000000000 := Int.ediv_le_self _ (by decide)
                have hmul : kx * z ≤ 1000000000000 := by
                  have h1 := Int.mul_le_mul_of_nonneg_right (show kx ≤ 1000000000000 / z by omega) (show 0 ≤ z by omega)
                  have h2 := Int.ediv_mul_le 1000000000000 hz0
                  omega
                have hmul0 : 0 ≤ kx * z := Int.mul_nonneg hkr.1 (by omega)
                obtain ⟨d, hd⟩ : ∃ d, (1000000000000 : Int) / z = d := ⟨_, rfl⟩
                rw [hd] at td q0 q1' hz1
                have t1 : decide (d < kx) = false := decide_eq_false (by omega)
                have HFN := Lib.hid (show 0 ≤ a + kx * z ∧ a + kx * z ≤ ((q + 2 : Nat) : Int) * 1000000000000 ∧ Cs.rsumF us (a + kx * z) (ws.drop (q + 2)) = R from ⟨by omega, by omega, hfin⟩)
                obtain ⟨P, hP⟩ : ∃ P, kx * z = P := ⟨_, rfl⟩
                rw [hP] at hmul hmul0 HFN
                clear hfin hz hd
                go_wp2_with fail
                go_roundw
                case rel => exact ⟨q + 2, a + P, by omega, by omega, by go_num, rfl, HFN.out.1, HFN.out.2.1, HFN.out.2.2, C1.out⟩
                case measure => simp [intOf]; omega
      · obtain rfl : q = ws.length := by omega
        have hk5 : decide ((ws.length : Int) < (ws.length : Int)) = false := decide_eq_false (by omega)
        rw [List.drop_length, Cs.rsumF_nil] at hF
        have HF := Lib.hid hF
        clear hF hC
        go_wp2_with fail
        go_ret2
        have h := HF.out
        subst h
        exact ⟨rfl, C1.out.bl⟩

end Go.Proofs.YtncdeogpmodoaabGreatDoor
