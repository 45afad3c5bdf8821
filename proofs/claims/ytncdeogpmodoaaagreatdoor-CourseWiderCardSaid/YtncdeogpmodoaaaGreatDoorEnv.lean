/-
  What a call finds in the package-level variables; the library's functions on texts, by the shelf's contracts.
-/
import Derived.Test.YtncdeogpmodoaaaGreatDoorSin
import Derived.Test.YtncdeogpmodoaaaGreatDoorVar
import Derived.Test.YtncdeogpmodoaaaGreatDoorQua
import Derived.Test.YtncdeogpmodoaaaGreatDoorShelf
import Derived.Lib.LaidTab
set_option linter.unusedVariables false
set_option linter.unusedSimpArgs false
namespace Go.Proofs.YtncdeogpmodoaaaGreatDoor
open Go.RowKit Go.Lib
set_option maxRecDepth 100000

/-- A text as a value. -/
def sv (l : Cs.Bs) : Value := .string ⟨l.toArray⟩
theorem sv_def (l : Cs.Bs) : sv l = .string ⟨l.toArray⟩ := rfl

/-- What the variables hold that the program's text lays, or some value of their type. -/
structure Env (w : World) : Prop where
  sn : Sn w
  gl : 9 ≤ w.heap.size
  pow : Lib.TabIs Tryz.prog w "internal/strconv.uint64pow10" .u64 Lib.pow10Tab
  mx : ∃ m : Int, w.cell? ⟨2, 0, none⟩ = some (.int .i64 m)
  syn : ∃ tp p, w.var? Tryz.prog "strconv.ErrSyntax" = some #[.iface tp p]
  rng : ∃ tp p, w.var? Tryz.prog "strconv.ErrRange" = some #[.iface tp p]

theorem var_same {P : Program} {w w' : World} {name : String} {g : Nat} (hg : P.globalNamed name = some g) (h : w'.heap[g]? = w.heap[g]?) : w'.var? P name = w.var? P name := by
  simp [World.var?, hg, h]
theorem Env.step {w w' : World} (h : Env w) (hb : Below w.heap.size w w') : Env w' := by
  have g9 := h.gl
  have v1 : w'.var? Tryz.prog "internal/strconv.uint64pow10" = w.var? Tryz.prog "internal/strconv.uint64pow10" := var_same (g := 1) (by kernel_rfl) (hb.block _ (by omega))
  have v2 : w'.var? Tryz.prog "strconv.ErrSyntax" = w.var? Tryz.prog "strconv.ErrSyntax" := var_same (g := 3) (by kernel_rfl) (hb.block _ (by omega))
  have v3 : w'.var? Tryz.prog "strconv.ErrRange" = w.var? Tryz.prog "strconv.ErrRange" := var_same (g := 4) (by kernel_rfl) (hb.block _ (by omega))
  obtain ⟨m, hm⟩ := h.mx
  exact ⟨h.sn.step hb, Nat.le_trans g9 hb.size, v1.trans h.pow, ⟨m, (hb.cell (p := ⟨2, 0, none⟩) (by simp; omega)).trans hm⟩, by rw [v2]; exact h.syn, by rw [v3]; exact h.rng⟩

theorem below_grow (B : Nat) (w : World) (q : Nat) (os : Array Obj) (hB : B ≤ w.heap.size) : Below B w (Go.Sort.grow (w.drewN q) os) :=
  ⟨rfl, rfl, rfl, by simp [Go.Sort.grow], fun k hk => by
    simp only [Go.Sort.grow]
    rw [Array.getElem?_append_left (by simp; omega)]
    rfl⟩
theorem below_bytes (w : World) (e : TypeId) (s : ByteArray) : Below w.heap.size w (Lib.bytesWorld w e s) :=
  ⟨rfl, rfl, rfl, by rw [Lib.bytesWorld_size]; omega, fun k hk => Lib.bytesWorld_at_old w e s k (by omega)⟩

theorem itoa_any (n : Int) (h0 : -9223372036854775808 ≤ n) (h1 : n ≤ 9223372036854775807) (w : World) (hE : Env w) :
    Calls Tryz.prog 81 #[.int .i64 n] w fun e w' => e = .returned (sv (Lib.itoa n)) ∧ Below w.heap.size w w' :=
  (Tryz.strconv_Itoa n h0 h1 w hE.pow).mono fun _ _ ⟨h, k, os, hw⟩ => ⟨h, by rw [hw]; exact below_grow _ _ _ _ (Nat.le_refl _)⟩

theorem atoi_ok (l : Cs.Bs) (v : Int) (hv : Cs.numF l = some v) (hl : l.length ≤ 1000000) (w : World) :
    Calls Tryz.prog 102 #[sv l] w fun e w' => e = .returned (.tuple #[.int .i64 v, .nilIface]) ∧ Below w.heap.size w w' := by
  have h : Lib.atoiAll l = .ok v := by
    unfold Cs.numF at hv
    rcases ha : Lib.atoiAll l with x | _ | _
    · rw [ha] at hv; simp only [Option.some.injEq] at hv; rw [hv]
    · rw [ha] at hv; cases hv
    · rw [ha] at hv; cases hv
  refine (Tryz.strconv_Atoi_ok ⟨l.toArray⟩ (by simp [ByteArray.size]; omega) v (by simpa using h) w).mono ?_
  rintro e w' ⟨he, hw | ⟨t, hw⟩⟩
  · subst hw; exact ⟨he, Below.refl _ _⟩
  · subst hw; exact ⟨he, below_bytes _ _ _⟩

theorem atoi_no (l : Cs.Bs) (hv : Cs.numF l = none) (hl : l.length ≤ 1000000) (w : World) (hE : Env w) :
    Calls Tryz.prog 102 #[sv l] w fun e w' => ∃ v t p, e = .returned (.tuple #[.int .i64 v, .iface t p]) ∧ Below w.heap.size w w' := by
  rcases ha : Lib.atoiAll l with x | _ | _
  · unfold Cs.numF at hv; rw [ha] at hv; cases hv
  · obtain ⟨tp, p, hvar⟩ := hE.syn
    refine (Tryz.strconv_Atoi_syntax_var ⟨l.toArray⟩ (by simp [ByteArray.size]; omega) (show Lib.atoiAll l = Lib.atoiAll [] from ha) tp p w hvar).mono ?_
    rintro e w' ⟨N, he, _, _, hb⟩
    exact ⟨_, _, _, he, hb⟩
  · obtain ⟨tp, p, hvar⟩ := hE.rng
    refine (Tryz.strconv_Atoi_range_var ⟨l.toArray⟩ (by simp [ByteArray.size]; omega) (by simpa using ha) tp p w hvar).mono ?_
    rintro e w' ⟨N, he, _, _, hb⟩
    exact ⟨_, _, _, he, hb⟩

/-- The words of a list, as they lie in memory. -/
def wcells (ws : List Cs.Bs) : List Value := ws.map sv

theorem join_len (ws : List Cs.Bs) (L : Nat) (h : ∀ x ∈ ws, x.length ≤ L) : (Lib.join ws [32]).length ≤ ws.length * (L + 1) := by
  have ht : ∀ r : List Cs.Bs, (∀ x ∈ r, x.length ≤ L) → (Lib.joinTail [32] r).length ≤ r.length * (L + 1) := fun r => by
    induction r with
    | nil => intro _; simp [Lib.joinTail]
    | cons y t ih =>
      intro h
      have h1 := h y List.mem_cons_self
      have h2 := ih (fun x hx => h x (List.mem_cons_of_mem _ hx))
      rw [show Lib.joinTail [32] (y :: t) = 32 :: (y ++ Lib.joinTail [32] t) by simp [Lib.joinTail]]
      simp only [List.length_cons, List.length_append, Nat.succ_mul]
      omega
  cases ws with
  | nil => simp [Lib.join_nil]
  | cons w r =>
    have h1 := h w List.mem_cons_self
    have h2 := ht r (fun x hx => h x (List.mem_cons_of_mem _ hx))
    rw [Lib.join_cons]
    simp only [List.length_cons, List.length_append, Nat.succ_mul]
    omega
theorem join_any (A : Option Addr) (c : Nat) (ws : List Cs.Bs) (w : World) (hR : Rd w w.heap.size 1 A ws.length (wcells ws)) (hc : ws.length ≤ c) (hn : ws.length ≤ 1000000) (hl : ∀ x ∈ ws, x.length ≤ 1000000) :
    Calls Tryz.prog 92 #[.slice A ws.length c, .string ⟨#[32]⟩] w fun e w' => e = .returned (sv (Lib.join ws [32])) ∧ Below w.heap.size w w' := by
  by_cases h0 : ws = []
  · subst h0
    refine (Tryz.strings_Join_none A c ⟨#[32]⟩ w).mono ?_
    rintro e w' ⟨he, rfl⟩
    exact ⟨by rw [he]; rfl, Below.refl _ _⟩
  · have hp : 0 < ws.length := by cases ws with | nil => exact absurd rfl h0 | cons _ _ => simp
    obtain ⟨b, off, rfl, hb, hcell⟩ := hR.2 hp
    have hlen := join_len ws 1000000 hl
    have hm : (ws.map fun l => (⟨l.toArray⟩ : ByteArray)).map (·.data.toList) = ws := by
      rw [List.map_map]
      exact (List.map_congr_left (fun l _ => by simp)).trans (List.map_id ws)
    have h := Tryz.strings_Join b off c (ws.map fun l => ⟨l.toArray⟩) ⟨#[32]⟩ w (fun j x hj => by
      have hj' : j < ws.length := by
        have := (List.getElem?_eq_some_iff.1 hj).1
        simpa using this
      rw [hcell j (by omega)]
      simp only [List.getElem?_map] at hj
      simp only [wcells, List.getElem?_map]
      cases hw : ws[j]? with
      | none => rw [hw] at hj; cases hj
      | some l =>
        rw [hw] at hj
        simp only [Option.map_some, Option.some.injEq] at hj ⊢
        rw [← hj]; rfl) hb (by simp; omega) (by simpa using hc) (by rw [hm]; simp; omega)
    rw [hm] at h
    simp only [List.length_map] at h
    exact h

end Go.Proofs.YtncdeogpmodoaaaGreatDoor
