/-
  What the claims of layer deed need of the texts Cnt, Len, Nrd.
-/
import Derived.Maps.OwnIn
import Derived.Deep.AppendLies
import Derived.Defers
import Derived.Recover
import Derived.Test.YtcbeefbefapicaaGreatDoorBn06
import Derived.Test.YtcbeefbefapicaaGreatDoorBn02
import Derived.Test.YtcbeefbefapicaaGreatDoorBn04
set_option linter.unusedVariables false
set_option linter.unusedSimpArgs false
namespace Go.Proofs.YtcbeefbefapicaaGreatDoor
open Go.RowKit Go.Shelf
set_option maxRecDepth 100000
attribute [local go_sem] Oper.semAt_some
theorem infoS : (Tryz.prog.info? 9).map (fun i => (i.zero, i.size, i.bytes)) = some (some (.string ByteArray.empty), 1, 16) := by kernel_rfl
def CntI (w : World) (n : Int) (pre : List Cs.Un) (W : World) : Prop :=
 ∃ v, Bk W w.heap.size 3 #[.int .i64 (Cs.restF pre n)] ∧ Bk W (w.heap.size + 1) 23 #[v] ∧ W.ownsRow (w.heap.size + 2) 9 1 v (Cs.wordsF pre n).length (wcells (Cs.wordsF pre n)) ∧ Below w.heap.size w W
theorem bk_own {W W' : World} {row : Option Nat} {g : Nat} {t : TypeId} {cs : Array Value} (h : Bk W g t cs) (hg : W.grownBy W' row) (hr : ∀ r, row = some r → ∃ o : Obj, W.heap[r]? = some o ∧ o.isCells = false) : Bk W' g t cs := by
 refine (hg.block g h.lt (fun e => ?_)).trans h
 obtain ⟨o, ho, hc⟩ := hr g e.symm
 have h' : W.heap[g]? = some (.cells cs t (0, 0)) := h
 rw [ho] at h'
 cases h'
 cases hc
theorem own_cells {W W' : World} {row : Option Nat} {base e size : Nat} {v : Value} {n : Nat} {xs : List Value} (h : W.ownsRow base e size v n xs) (hg : W.grownBy W' row) (hr : ∀ r, row = some r → ∃ o : Obj, W.heap[r]? = some o ∧ o.isCells = false) : W'.ownsRow base e size v n xs := by
 refine h.kept hg ?_
 rcases hb : v.ownBlock with _ | g
 ·exact .inl rfl
 ·refine .inr fun e => ?_
  obtain ⟨o, ho, hc⟩ := hr g e.symm
  rcases h.2 with ⟨rfl, _⟩ | ⟨g', cap, cur, rfl, _, hg', _⟩
  ·cases hb
  ·cases hb
   rw [hg'] at ho
   cases ho
   cases hc
theorem below_own {a W W' : World} {row : Option Nat} {C B : Nat} (h : Below C a W) (hC : C ≤ B) (hg : W.grownBy W' row) (hr : ∀ r, row = some r → B ≤ r) (hs : C ≤ W.heap.size) : Below C a W' :=
 ⟨hg.os.trans h.os, hg.tape.trans h.tape, hg.output.trans h.output, Nat.le_trans h.size hg.size, fun k hk => (hg.block k (by omega) (fun e => by have := hr k e.symm; omega)).trans (h.block k hk)⟩
theorem cntI_own {w : World} {n : Int} {B : Nat} (hB : w.heap.size ≤ B) : OwnFrom B (fun (pre : List Uo) W => CntI w n (pre.map (·.1)) W) := by
 rintro pre W W' row ⟨v, h1, h2, h3, h4⟩ hg hr
 exact ⟨v, bk_own h1 hg (fun r e => (hr r e).2), bk_own h2 hg (fun r e => (hr r e).2), own_cells h3 hg (fun r e => (hr r e).2), below_own h4 hB hg (fun r e => (hr r e).1) h4.size⟩
theorem wd_facts {us : List Uo} {n : Int} (h0 : 0 ≤ n) (h1 : n ≤ 1000000000000) : 0 ≤ Cs.restF (us.map (·.1)) n ∧ Cs.restF (us.map (·.1)) n ≤ 1000000000000 := by
  induction us generalizing n with
  | nil => exact ⟨h0, h1⟩
  | cons u r ih =>
    rw [List.map_cons, Cs.restF]
    have := u.2.2.2.1
    have h2 := Int.emod_nonneg n (show u.1.size ≠ 0 by omega)
    have h3 : n % u.1.size ≤ n := by
      have h4 := Int.mul_ediv_add_emod n u.1.size
      have h5 := Int.mul_nonneg (show 0 ≤ u.1.size by omega) (Int.ediv_nonneg h0 (show 0 ≤ u.1.size by omega))
      omega
    exact ih h2 (by omega)
theorem grown_setCell (w : World) (p : Addr) (v : Value) : w.grownBy (w.setCell p v) (some p.block) :=
 ⟨rfl, rfl, rfl, by simp [World.setCell], fun k _ hk => Below.heap_setCell _ _ _ k (fun e => hk (by rw [e]))⟩
theorem own_offN {w : World} {base e size : Nat} {v : Value} {n : Nat} {xs : List Value} (h : w.ownsRow base e size v n xs) {g : Nat} (hg : g < base) : v.ownBlock = none ∨ v.ownBlock ≠ some g := by
 rcases hb : v.ownBlock with _ | k
 ·exact .inl rfl
 ·refine .inr fun e => ?_
  have := (h.lt k hb).1
  cases e
  omega
theorem own_set {w : World} {base e size : Nat} {v : Value} {n : Nat} {xs : List Value} (h : w.ownsRow base e size v n xs) {p : Addr} (hp : p.block < base) (u : Value) : (w.setCell p u).ownsRow base e size v n xs :=
 h.kept (grown_setCell w p u) (own_offN h hp)
theorem Bk.grown {w w' : World} {g : Nat} {t : TypeId} {cs : Array Value} {row : Option Nat} (h : Bk w g t cs) (hg : w.grownBy w' row) (hne : some g ≠ row) : Bk w' g t cs := (hg.block g h.lt hne).trans h
theorem ownB_rd {w : World} {base e size : Nat} {v : Value} {n : Nat} {xs : List Value} (h : w.ownsRow base e size v n xs) (hl : xs.length = n * size) :
  ∃ A c, v = .slice A n c ∧ Rd w w.heap.size size A n xs ∧ ∀ a, A = some a → base ≤ a.block := by
 rcases h.2 with ⟨rfl, h0⟩ | ⟨g, cap, cur, rfl, hb, hg, _⟩
 ·refine ⟨none, 0, by rw [h0], ⟨hl, fun hn => absurd hn (by omega)⟩, fun a e => by cases e⟩
 ·refine ⟨_, _, rfl, ⟨hl, fun hn => ⟨g, 0, rfl, (Array.getElem?_eq_some_iff.1 hg).1, fun j hj => ?_⟩⟩, fun a e => by cases e; exact hb⟩
  rw [Nat.zero_add]
  exact h.cellAt j (by omega)
theorem own_type {w : World} {base e size : Nat} {v : Value} {n : Nat} {xs : List Value} (h : w.ownsRow base e size v n xs) {g : Nat} {t : TypeId} {cs : Array Value} (k : Bk w g t cs) (hne : t ≠ e) : some g ≠ v.ownBlock := fun e' => by
 rcases h.2 with ⟨rfl, _⟩ | ⟨g', cap, cur, rfl, _, hg', _⟩
 ·cases e'
 ·obtain rfl : g = g' := by simpa [Value.ownBlock] using e'
  have k' : w.heap[g]? = some (.cells cs t (0, 0)) := k
  rw [hg'] at k'
  simp only [Option.some.injEq, Obj.cells.injEq] at k'
  exact hne k'.2.1.symm
theorem cnt_fin {w W W2 : World} {r : Int} {v : Value} {m B : Nat} {xs : List Value} (hB : Below w.heap.size w W) (h1 : Bk W w.heap.size 3 #[.int .i64 r]) (h2 : Bk W (w.heap.size + 1) 23 #[v]) (h3 : W.ownsRow (w.heap.size + 2) 9 1 v m xs)
  (hk : KeepX W.heap.size (fun j => j = w.heap.size ∨ j = w.heap.size + 1 ∨ v.ownBlock = some j) W W2) : KeepsFrom B W W2 ∧ Below w.heap.size w W2 := by
 have l1 := h1.lt
 have l2 := h2.lt
 refine ⟨⟨hk.size, fun k o hb ho hc => ?_⟩, hB.trans (hk.below (B := w.heap.size) hB.size (fun j hj e => ?_))⟩
 ·have hkl := (Array.getElem?_eq_some_iff.1 ho).1
  refine (hk.block k hkl (fun e => ?_)).trans ho
  rcases e with rfl | rfl | e
  ·have h1' : W.heap[w.heap.size]? = some (.cells #[.int .i64 r] 3 (0, 0)) := h1
   rw [ho] at h1'
   cases h1'
   cases hc
  ·have h2' : W.heap[w.heap.size + 1]? = some (.cells #[v] 23 (0, 0)) := h2
   rw [ho] at h2'
   cases h2'
   cases hc
  ·rcases h3.2 with ⟨rfl, _⟩ | ⟨g', cap, cur, rfl, _, hg', _⟩
   ·cases e
   ·cases e
    rw [hg'] at ho
    cases ho
    cases hc
 ·rcases e with e | e | e
  ·omega
  ·omega
  ·have := h3.lt _ e
   omega
theorem words_short (us : List Uo) (n : Int) (h0 : 0 ≤ n) (h1 : n ≤ 1000000000000) : ∀ x ∈ Cs.wordsF (us.map (·.1)) n, x.length ≤ 1000000 := by
  induction us generalizing n with
  | nil => intro x hx; cases hx
  | cons u r ih =>
    intro x hx
    obtain ⟨u, hu⟩ := u
    obtain ⟨_, _, us0, us1, ul1, ul2⟩ := hu
    have hq0 : 0 ≤ n / u.size := Int.ediv_nonneg h0 (by omega)
    have hqr : n / u.size ≤ n := Int.ediv_le_self _ h0
    have hm0 : 0 ≤ n % u.size := Int.emod_nonneg _ (by omega)
    have hm1 : n % u.size < u.size := Int.emod_lt_of_pos _ us0
    rw [List.map_cons, Cs.wordsF] at hx
    rcases List.mem_append.1 hx with hx | hx
    · unfold Cs.pairF at hx
      split at hx
      · cases hx
      · split at hx
        · simp only [List.mem_cons, List.not_mem_nil, or_false] at hx
          rcases hx with rfl | rfl
          · simp
          · omega
        · simp only [List.mem_cons, List.not_mem_nil, or_false] at hx
          rcases hx with rfl | rfl
          · have := itoa_len hq0 (by omega)
            omega
          · omega
    · exact ih _ hm0 (by omega) x hx
theorem cnt_app {w W Wn w1 : World} {r s m : Int} {v v' : Value} {k k' Bx : Nat} {xs xs' : List Value} {a b : Value} (i1 : Bk W w.heap.size 3 #[.int .i64 r]) (i2 : Bk W (w.heap.size + 1) 23 #[v]) (i3 : W.ownsRow (w.heap.size + 2) 9 1 v k xs)
  (bX : Bk W Bx 253 #[a, b, .int .i64 s]) (hBx : w.heap.size + 2 ≤ Bx) (hn : Below W.heap.size W Wn) (hown : w1.ownsRow (w.heap.size + 2) 9 1 v' k' xs') (hgrow : Wn.grownBy w1 v.ownBlock) :
  w1.cell? ⟨w.heap.size + 1, 0, none⟩ = some v ∧ w1.frozen? ⟨w.heap.size + 1, 0, none⟩ = false ∧
  (w1.setCell ⟨w.heap.size + 1, 0, none⟩ v').cell? ⟨w.heap.size, 0, none⟩ = some (.int .i64 r) ∧ (w1.setCell ⟨w.heap.size + 1, 0, none⟩ v').frozen? ⟨w.heap.size, 0, none⟩ = false ∧
  (w1.setCell ⟨w.heap.size + 1, 0, none⟩ v').cell? ⟨Bx, 2, none⟩ = some (.int .i64 s) ∧ (w1.cell? ⟨Bx, 1, none⟩ = some b) ∧
  w.heap.size < w1.heap.size ∧ w.heap.size + 1 < w1.heap.size ∧ Bx < w1.heap.size ∧
  Hid (Bk ((w1.setCell ⟨w.heap.size + 1, 0, none⟩ v').setCell ⟨w.heap.size, 0, none⟩ (.int .i64 m)) w.heap.size 3 #[.int .i64 m] ∧ Bk ((w1.setCell ⟨w.heap.size + 1, 0, none⟩ v').setCell ⟨w.heap.size, 0, none⟩ (.int .i64 m)) (w.heap.size + 1) 23 #[v'] ∧
   ((w1.setCell ⟨w.heap.size + 1, 0, none⟩ v').setCell ⟨w.heap.size, 0, none⟩ (.int .i64 m)).ownsRow (w.heap.size + 2) 9 1 v' k' xs' ∧
   KeepX W.heap.size (fun j => j = w.heap.size ∨ j = w.heap.size + 1 ∨ v.ownBlock = some j) W ((w1.setCell ⟨w.heap.size + 1, 0, none⟩ v').setCell ⟨w.heap.size, 0, none⟩ (.int .i64 m))) := by
 have n1 : some w.heap.size ≠ v.ownBlock := fun e => by have := (i3.lt _ e.symm).1; omega
 have n2 : some (w.heap.size + 1) ≠ v.ownBlock := fun e => by have := (i3.lt _ e.symm).1; omega
 have n3 := own_type i3 bX (by decide)
 have a1 := (i1.below hn i1.lt).grown hgrow n1
 have a2 := (i2.below hn i2.lt).grown hgrow n2
 have a3 := (bX.below hn bX.lt).grown hgrow n3
 have b1 := a1.far (p := ⟨w.heap.size + 1, 0, none⟩) (by simp) v'
 have b2 := a2.set 0 v'
 have b3 := a3.far (p := ⟨w.heap.size + 1, 0, none⟩) (by simp; omega) v'
 have hk : KeepX W.heap.size (fun j => j = w.heap.size ∨ j = w.heap.size + 1 ∨ v.ownBlock = some j) W w1 := (KeepX.of_below hn _).trans (KeepX.of_grown hgrow hn.size (fun k e _ => .inr (.inr e)))
 refine ⟨(a2.cell 0).trans rfl, a2.frozen 0, (b1.cell 0).trans rfl, b1.frozen 0, (b3.cell 2).trans rfl, (a3.cell 1).trans rfl, a1.lt, a2.lt, a3.lt, Lib.hid ⟨b1.set 0 _, b2.far (p := ⟨w.heap.size, 0, none⟩) (by simp) _, own_set (own_set hown (by simp) _) (by simp) _, ?_⟩⟩
 exact (hk.setCell (p := ⟨w.heap.size + 1, 0, none⟩) (fun _ => .inr (.inl rfl)) _).setCell (p := ⟨w.heap.size, 0, none⟩) (fun _ => .inl rfl) _
set_option maxHeartbeats 8000000 in
theorem counted_yes (g : Nat) (us : List Uo) (hus : us.length ≤ 4) (hst : ∀ n, 1 ≤ n → ∀ Kp w, SeqStopsK Fence.wide n Tryz.prog g #[] uvals Kp (fun xs => xs = us) (fun pre => pre <+: us) us.length w)
  (eg : ∀ args w, (callFunc g args).run Tryz.prog w = .ok (.enter g args) w) (n most : Int) (h0 : 0 < n) (h1 : n ≤ most) (h2 : most ≤ 1000000000000) (w : World) (hE : Env w) :
  Calls Tryz.prog 211 #[.func (.func g) #[] #[], .int .i64 n, .int .i64 most] w fun e w' => e = .returned (sv (Lib.join (Cs.wordsF (us.map (·.1)) n) [32])) ∧ Below w.heap.size w w' := by
 obtain ⟨i0, hi0, hy0, hy1, hy2⟩ := info_parts infoS
 have hn0 : (n == 0) = false := beq_eq_false_iff_ne.2 (by omega)
 have hd : decide (0 ≤ n ∧ n ≤ most) = true := decide_eq_true ⟨by omega, h1⟩
 have HD := Lib.hid hd
 have HE := Lib.hid hE
 clear hd hE
 refine (callsIn_wide (n := 3)).1 ?_
 refine callsIn_of_wp_marks Tryz.func211 rfl trivial ?_ rfl
 simp only [Tryz.ntmps211, List.size_toArray, List.length_cons, List.length_nil, Nat.reduceAdd, Nat.reduceSub, Array.replicate_succ, Array.replicate_zero, List.push_toArray, List.append_toArray, List.nil_append, List.cons_append]
 gi_wp2_with (refine ⟨trivial, ?_⟩; gi_at_call 77; refine (callsIn_wide.2 (between_any _ _ _ _)).mono ?_; rw [HD.out]; rintro e w' ⟨rfl, rfl⟩)
 have kn := (Bk.new w 3 #[.int .i64 n]).alloc (.cells #[.slice none 0 0] 23)
 have kw := Bk.new (w.alloc (.cells #[.int .i64 n] 3)) 23 #[.slice none 0 0]
 have hB0 := ((Below.refl w.heap.size w).alloc (Nat.le_refl _) (.cells #[.int .i64 n] 3)).alloc (by simp) (.cells #[.slice none 0 0] 23)
 have e0 : ((w.alloc (.cells #[.int .i64 n] 3)).alloc (.cells #[.slice none 0 0] 23)).heap.size = w.heap.size + 2 := by simp
 rw [World.size_alloc] at kw
 obtain ⟨W0, hW0⟩ : ∃ W0, ((w.alloc (.cells #[.int .i64 n] 3)).alloc (.cells #[.slice none 0 0] 23)) = W0 := ⟨_, rfl⟩
 rw [hW0] at kn kw hB0 e0 ⊢
 clear hW0
 have hz0 : W0.heap.size ≤ w.heap.size + 2 := by omega
 have hz1 : w.heap.size + 2 ≤ W0.heap.size := by omega
 clear e0
 have HST := Lib.hid hst
 have EG := Lib.hid eg
 clear hst eg
 refine wpIn_rangeFunc_ownH (F := Fence.wide) (n := 3) rfl (by omega) (gf := g) (lb := #[]) rfl trivial EG.out
  (HST.out 2 (by omega) (fun _ _ => True) W0) (fun _ _ => trivial) (fun _ _ _ _ _ _ _ _ => trivial) (Below.refl _ _) (fun _ => rfl)
  (fun pre W' => CntI w n (pre.map (·.1)) W')
  (fun _ _ _ => False)
  (cntI_own (by omega))
  (fun _ _ _ _ _ h _ _ => h)
  ⟨.slice none 0 0, kn, kw, World.ownsRow_nil _ _ _ _, hB0⟩
  (fun x a' W' => ∃ Bx, W0.heap.size ≤ Bx ∧ Bk W' Bx 253 #[.string ⟨x.1.one.toArray⟩, .string ⟨x.1.many.toArray⟩, .int .i64 x.1.size] ∧ a' = { tmps := (Value.func (.func g) #[] #[] :: Value.int .i64 n :: Value.int .i64 most :: undef :: Value.pointer (some ⟨w.heap.size, 0, none⟩) :: undef :: Value.string ⟨#[]⟩ :: Value.pointer (some ⟨w.heap.size + 1, 0, none⟩) :: Value.pointer (some ⟨Bx, 0, none⟩) :: undef :: Value.int .i64 n :: Value.int .i64 most :: Value.bool true :: Value.bool false :: Value.int .i64 n :: Value.bool false :: Value.func (.func g) #[] #[] :: Value.agg #[.string ⟨x.1.one.toArray⟩, .string ⟨x.1.many.toArray⟩, .int .i64 x.1.size] :: undef :: undef :: undef :: undef :: undef :: undef :: undef :: undef :: undef :: undef :: undef :: undef :: undef :: undef :: undef :: undef :: undef :: undef :: undef :: undef :: undef :: undef :: undef :: undef :: undef :: undef :: undef :: []).toArray, defers := [] })
  (fun x a' _ X Y row hs hg hr => by obtain ⟨Bx, h1, h2, h3⟩ := hs; exact ⟨Bx, h1, bk_own h2 hg (fun r e => (hr r e).2), h3⟩)
  ?assign ?body ?done ?stop
 case assign =>
  rintro l pre x W' KK i1 hKK
  rw [show uvals x = #[.agg #[.string ⟨x.1.one.toArray⟩, .string ⟨x.1.many.toArray⟩, .int .i64 x.1.size]] from rfl]
  have hBW : W0.heap.size ≤ W'.heap.size := by
   obtain ⟨v, q1, q2, q3, q4⟩ := i1
   have := q2.lt
   omega
  have i2 : CntI w n (pre.map (·.1)) (W'.alloc (.cells #[.string ⟨x.1.one.toArray⟩, .string ⟨x.1.many.toArray⟩, .int .i64 x.1.size] 253)) := by
   obtain ⟨v, q1, q2, q3, q4⟩ := i1
   exact ⟨v, q1.alloc _, q2.alloc _, q3.alloc _, q4.alloc q4.size _⟩
  have I2 := Lib.hid i2
  have HKK := Lib.hid hKK
  clear i1 i2 hKK
  gi_wp2_with (fail)
  exact HKK.out _ _ ((KeepsOthers.alloc _ _).from _) trivial I2.out ⟨W'.heap.size, hBW, Bk.new W' _ _, rfl⟩
 case body =>
  rintro l' pre x a' W' hl' ⟨rr, hr⟩ ⟨v, i1, i2, i3, i4⟩ ⟨Bx, hBx, bX, rfl⟩ hltp
  obtain ⟨u, hu⟩ := x
  obtain ⟨uo1, uo2, us0, us1, ul1, ul2⟩ := id hu
  obtain ⟨r0, r1⟩ := wd_facts (us := pre) (n := n) (by omega) (by omega)
  have hsw := Cs.wordsF_snoc (pre.map (·.1)) u n
  have hsr := Cs.restF_snoc (pre.map (·.1)) u n
  have hmap : (pre ++ [(⟨u, hu⟩ : Uo)]).map (·.1) = pre.map (·.1) ++ [u] := by simp
  have hwl := (Cs.words_len (pre.map (·.1)) n).1
  rw [List.length_map] at hwl
  obtain ⟨r, hrr⟩ : ∃ r, Cs.restF (pre.map (·.1)) n = r := ⟨_, rfl⟩
  obtain ⟨ws, hws⟩ : ∃ ws, Cs.wordsF (pre.map (·.1)) n = ws := ⟨_, rfl⟩
  rw [hrr] at r0 r1 hsr hsw i1
  rw [hws] at hsw hwl i3
  obtain ⟨s, hs⟩ : ∃ s, u.size = s := ⟨_, rfl⟩
  dsimp only at bX
  rw [hs] at hsw hsr us0 us1 bX
  have hq0 : 0 ≤ r / s := Int.ediv_nonneg r0 (by omega)
  have hqr : r / s ≤ r := Int.ediv_le_self _ r0
  have hm0 : 0 ≤ r % s := Int.emod_nonneg _ (by omega)
  have hm1 : r % s < s := Int.emod_lt_of_pos _ us0
  have htd : r.tdiv s = r / s := Int.tdiv_eq_ediv_of_nonneg r0
  have htm : r.tmod s = r % s := Int.tmod_eq_emod_of_nonneg r0
  obtain ⟨q, hq⟩ : ∃ q, r / s = q := ⟨_, rfl⟩
  obtain ⟨m, hm⟩ : ∃ m, r % s = m := ⟨_, rfl⟩
  rw [hq] at hsw hq0 hqr htd
  rw [hm] at hsr hm0 hm1 htm
  have hpn : ∀ (W2 : World) (v2 : Value), Bk W2 w.heap.size 3 #[.int .i64 m] → Bk W2 (w.heap.size + 1) 23 #[v2] → W2.ownsRow (w.heap.size + 2) 9 1 v2 (ws ++ Cs.pairF u q).length (wcells (ws ++ Cs.pairF u q)) →
    KeepX W'.heap.size (fun j => j = w.heap.size ∨ j = w.heap.size + 1 ∨ v.ownBlock = some j) W' W2 → KeepsFrom W0.heap.size W' W2 ∧ True ∧ CntI w n ((pre ++ [(⟨u, hu⟩ : Uo)]).map (·.1)) W2 := fun W2 v2 q1 q2 q3 hk => by
   obtain ⟨k1, k2⟩ := cnt_fin (B := W0.heap.size) i4 i1 i2 i3 hk
   refine ⟨k1, trivial, v2, ?_, q2, ?_, k2⟩
   ·rw [hmap, hsr]; exact q1
   ·rw [hmap, hsw]; exact q3
  have HPN := Lib.hid hpn
  have x0 := (bX.cell 0).trans rfl
  have x1 := (bX.cell 1).trans rfl
  have x2 := (bX.cell 2).trans rfl
  have c0 := (i1.cell 0).trans rfl
  have cw := (i2.cell 0).trans rfl
  have lX := bX.lt
  have l1 := i1.lt
  have l2 := i2.lt
  have hs0 : ¬ s = 0 := by omega
  have HWS := Lib.hid (show ws.length ≤ 8 by omega)
  rw [hs]
  clear hpn hmap hsw hsr hr hltp hwl hq hm hrr hws
  by_cases hz : q = 0
  ·subst hz
   have f0 := i1.frozen 0
   have HFN := Lib.hid (HPN.out (W'.setCell ⟨w.heap.size, 0, none⟩ (.int .i64 m)) v (i1.set 0 _) (i2.far (p := ⟨w.heap.size, 0, none⟩) (by simp) _) (by rw [show Cs.pairF u 0 = [] from rfl, List.append_nil]; exact own_set i3 (by simp) _)
    ((KeepX.refl _ _ _).setCell (p := ⟨w.heap.size, 0, none⟩) (fun _ => .inl rfl) _))
   clear i1 i2 i3 i4 bX HPN
   gi_wp2_with (fail)
   exact HFN.out
  ·have hz0 : (q == 0) = false := beq_eq_false_iff_ne.2 hz
   clear hz
   by_cases hz : q = 1
   ·subst hz
    have hp1 : Cs.pairF u 1 = [[49], u.one] := rfl
    have hcl : ws.length + 2 = (ws ++ Cs.pairF u 1).length := by rw [hp1]; simp
    have hcx : wcells ws ++ [.string ⟨#[49]⟩, .string ⟨u.one.toArray⟩] = wcells (ws ++ Cs.pairF u 1) := by rw [hp1]; simp [wcells, sv]
    have hQ : ∀ (w1 : World) (v' : Value), w1.ownsRow (w.heap.size + 2) 9 1 v' (ws.length + 2) (wcells ws ++ [.string ⟨#[49]⟩, .string ⟨u.one.toArray⟩]) → (W'.alloc (.cells #[.string ⟨#[49]⟩, .string ⟨u.one.toArray⟩] 9)).grownBy w1 v.ownBlock → _ :=
     fun w1 v' hown hgrow => cnt_app (m := m) i1 i2 i3 bX (by omega) ((Below.refl _ W').alloc (Nat.le_refl _) _) hown hgrow
    have hOn := i3.alloc (.cells #[.string ⟨#[49]⟩, .string ⟨u.one.toArray⟩] 9)
    have hb47 : ws.length + 2 ≤ 1000 := by have := HWS.out; omega
    have HQ := Lib.hid hQ
    have HCL := Lib.hid (And.intro hcl hcx)
    clear i1 i2 i3 i4 bX hp1 hcl hcx hQ
    gi_wp2_with (first
     | (refine wpListIn_append_own_at _ rfl _ _ 23 rfl (w.heap.size + 2) 9 i0 _ 1 16 Tryz.underlying23 hi0 hy0 hy1 hy2 rfl (by omega) v _ _ rfl hOn ⟨W'.heap.size, 0, none⟩ 2 2 [.string ⟨#[49]⟩, .string ⟨u.one.toArray⟩] rfl rfl (World.news_of_block (cs := #[.string ⟨#[49]⟩, .string ⟨u.one.toArray⟩]) (t := 9) (fr := (0, 0)) (World.alloc_heap_new W' _)) (by simp [Value.oneCell']) (by unfold maxLen; omega) (by omega) (by rw [World.size_alloc]; omega) ?_; intro v' w1 hown hgrow hnil hat; obtain ⟨A3, c3, hv3, _, _⟩ := ownB_rd hown (by simp [wcells]); subst hv3; obtain ⟨q1, q2, q3, q4, q5, q6, q7, q8, q9, QQ⟩ := HQ.out w1 _ hown hgrow))
    obtain ⟨k1, k2, k3, k4⟩ := QQ.out
    exact HPN.out _ _ k1 k2 (by rw [← HCL.out.1, ← HCL.out.2]; exact k3) k4
   ·have hz1 : (q == 1) = false := beq_eq_false_iff_ne.2 hz
    clear hz
    have hp2 : Cs.pairF u q = [Lib.itoa q, u.many] := by
     unfold Cs.pairF
     rw [if_neg (by simpa using hz0), if_neg (by simpa using hz1)]
    obtain ⟨T, hT⟩ : ∃ T, Lib.itoa q = T := ⟨_, rfl⟩
    rw [hT] at hp2
    have hIT := fun w h => itoa_any q (by omega) (by omega) w h
    rw [hT, sv_def] at hIT
    have hcl : ws.length + 2 = (ws ++ Cs.pairF u q).length := by rw [hp2]; simp
    have hcx : wcells ws ++ [.string ⟨T.toArray⟩, .string ⟨u.many.toArray⟩] = wcells (ws ++ Cs.pairF u q) := by rw [hp2]; simp [wcells, sv]
    have HEW := Lib.hid (HE.out.step i4)
    have hb47 : ws.length + 2 ≤ 1000 := by have := HWS.out; omega
    have HIT := Lib.hid hIT
    have HCL := Lib.hid (And.intro hcl hcx)
    clear hp2 hcl hcx hIT hT
    gi_wp2_with (fail)
    obtain ⟨V, hVV⟩ : ∃ V, W'.drew = V := ⟨_, rfl⟩
    have hbV : Below W'.heap.size W' V := by rw [← hVV]; exact (Below.refl _ _).drew
    have hSV : V.cell? ⟨w.heap.size + 1, 0, none⟩ = some v ∧ V.cell? ⟨Bx, 1, none⟩ = some (.string ⟨u.many.toArray⟩) := by rw [← hVV]; exact ⟨cw, x1⟩
    refine wpIn_region_last_round2 (S := fun V => V.cell? ⟨w.heap.size + 1, 0, none⟩ = some v ∧ V.cell? ⟨Bx, 1, none⟩ = some (.string ⟨u.many.toArray⟩)) 7 rfl rfl (by kernel_rfl) (by kernel_rfl) (by kernel_rfl) (fun ⟨_, _, h⟩ => h) (by rw [hVV]; exact hSV) (fun _ => ?_)
    rw [hVV]
    dsimp only [List.take]
    (refine wpAnyH_take (i := 0) (v := ?_) rfl (by kernel_rfl) (by kernel_rfl) (by kernel_rfl) (fun _ _ _ h => h) (Or.inl ⟨by rfl, ?_⟩) hSV ?_; rotate_left 1; focus (intro w hSw; (try dsimp only at hSw); go_simp; all_goals (with_reducible rfl)); (try simp only [Act.put, List.setIfInBounds_toArray, List.set_cons_zero, List.set_cons_succ]))
    (refine wpAnyH_take (i := 1) (v := ?_) rfl (by kernel_rfl) (by kernel_rfl) (by kernel_rfl) (fun _ _ _ h => h) (Or.inl ⟨by rfl, ?_⟩) hSV ?_; rotate_left 1; focus (intro w hSw; (try dsimp only at hSw); go_simp; all_goals (with_reducible rfl)); (try simp only [Act.put, List.setIfInBounds_toArray, List.set_cons_zero, List.set_cons_succ]))
    (refine wpAnyH_take (i := 3) (v := ?_) rfl (by kernel_rfl) (by kernel_rfl) (by kernel_rfl) (fun _ _ _ h => h) (Or.inl ⟨by rfl, ?_⟩) hSV ?_; rotate_left 1; focus (intro w hSw; (try dsimp only at hSw); go_simp; all_goals (with_reducible rfl)); (try simp only [Act.put, List.setIfInBounds_toArray, List.set_cons_zero, List.set_cons_succ]))
    (refine wpAnyH_take (i := 4) (v := ?_) rfl (by kernel_rfl) (by kernel_rfl) (by kernel_rfl) (fun _ _ _ h => h) (Or.inl ⟨by rfl, ?_⟩) hSV ?_; rotate_left 1; focus (intro w hSw; (try dsimp only at hSw); go_simp; all_goals (with_reducible rfl)); (try simp only [Act.put, List.setIfInBounds_toArray, List.set_cons_zero, List.set_cons_succ]))
    refine wpAnyH_ready (rs := [2]) (by kernel_rfl) (by simp) ?_
    refine AllReadyH.cons rfl (fun K hK => ?_) AllReadyH.nil
    rw [if_pos (by rfl)]
    go_simp
    refine (HIT.out V (HEW.out.step hbV)).mono ?_
    rintro e w3 ⟨rfl, hb3⟩
    have hb3' := hbV.trans (hb3.mono hbV.size)
    have hS3 : w3.cell? ⟨w.heap.size + 1, 0, none⟩ = some v ∧ w3.cell? ⟨Bx, 1, none⟩ = some (.string ⟨u.many.toArray⟩) :=
     ⟨(hb3'.cell (p := ⟨w.heap.size + 1, 0, none⟩) l2).trans cw, (hb3'.cell (p := ⟨Bx, 1, none⟩) lX).trans x1⟩
    simp only []
    refine hK.out _ _ hS3 (fun _ => ?_)
    clear hK K
    (try simp only [Act.put, List.setIfInBounds_toArray, List.set_cons_zero, List.set_cons_succ])
    refine wpAnyH_ready (rs := [5]) (by kernel_rfl) (by simp) ?_
    refine AllReadyH.cons rfl (fun K hK => ?_) AllReadyH.nil
    rw [if_pos (by rfl)]
    go_simp
    have hb4 : Below W'.heap.size W' (w3.alloc (.cells #[.string ⟨T.toArray⟩, .string ⟨u.many.toArray⟩] 9)) := hb3'.alloc hb3'.size _
    have hS4 : (w3.alloc (.cells #[.string ⟨T.toArray⟩, .string ⟨u.many.toArray⟩] 9)).cell? ⟨w.heap.size + 1, 0, none⟩ = some v ∧ (w3.alloc (.cells #[.string ⟨T.toArray⟩, .string ⟨u.many.toArray⟩] 9)).cell? ⟨Bx, 1, none⟩ = some (.string ⟨u.many.toArray⟩) :=
     ⟨(hb4.cell (p := ⟨w.heap.size + 1, 0, none⟩) l2).trans cw, (hb4.cell (p := ⟨Bx, 1, none⟩) lX).trans x1⟩
    refine hK.out _ _ hS4 (fun _ => ?_)
    clear hK K
    (try simp only [Act.put, List.setIfInBounds_toArray, List.set_cons_zero, List.set_cons_succ])
    have hOn : (w3.alloc (.cells #[.string ⟨T.toArray⟩, .string ⟨u.many.toArray⟩] 9)).ownsRow (w.heap.size + 2) 9 1 v ws.length (wcells ws) := i3.kept ⟨hb4.os, hb4.tape, hb4.output, hb4.size, fun k hk _ => hb4.block k hk⟩ (Classical.em _)
    have hz3 := hb3'.size
    refine wpAnyH_ready (rs := [6]) (by kernel_rfl) (by simp) ?_
    refine AllReadyH.cons rfl (fun K hK => ?_) AllReadyH.nil
    refine step_append_lies _ rfl (.tmp 23) (.tmp 28) 23 rfl (w.heap.size + 2) 9 i0 _ 1 16 Tryz.underlying23 hi0 hy0 hy1 hy2 rfl (by omega) v ws.length (wcells ws) (by rfl) hOn ⟨w3.heap.size, 0, none⟩ 2 2 [.string ⟨T.toArray⟩, .string ⟨u.many.toArray⟩] (by rfl) rfl
     (World.news_of_block (cs := #[.string ⟨T.toArray⟩, .string ⟨u.many.toArray⟩]) (t := 9) (fr := (0, 0)) (World.alloc_heap_new w3 _)) (by simp [Value.oneCell']) (by omega) (by unfold maxLen; omega) (by omega) (by rw [World.size_alloc]; omega) (w3.heap.size + 1) (by simp) ?_
    intro g5 cap5 w5 hown hgrow hat hg5
    obtain ⟨q1, q2, q3, q4, q5, q6, q7, q8, q9, QQ⟩ := cnt_app (m := m) i1 i2 i3 bX (by omega) hb4 hown hgrow
    refine hK.out _ _ ⟨q1, q6⟩ (fun _ => ?_)
    clear hK K
    (try simp only [Act.put, List.setIfInBounds_toArray, List.set_cons_zero, List.set_cons_succ])
    refine wpAnyH_done (by kernel_rfl) ?_ _
    simp only [QLast, List.getElem_toArray, List.getElem_cons_succ, List.getElem_cons_zero]
    clear i1 i2 i3 i4 bX hown hgrow hb3 hb3' hS3 hS4 hb4 hSV
    go_wp2_with (fail)
    gi_wp2_with (fail)
    obtain ⟨k1, k2, k3, k4⟩ := QQ.out
    exact HPN.out _ _ k1 k2 (by rw [← HCL.out.1, ← HCL.out.2]; exact k3) k4
 case done =>
  rintro D xs W' hD rfl ⟨v, i1, i2, i3, i4⟩ hKD
  have hwd : ∀ x ∈ Cs.wordsF (xs.map (·.1)) n, x.length ≤ 1000000 := words_short xs n (by omega) (by omega)
  have hwl := (Cs.words_len (xs.map (·.1)) n).1
  rw [List.length_map] at hwl
  obtain ⟨ws, hws⟩ : ∃ ws, Cs.wordsF (xs.map (·.1)) n = ws := ⟨_, rfl⟩
  rw [hws] at i3 hwd hwl
  have HWX := Lib.hid hws
  clear hws
  obtain ⟨A3, c3, rfl, hrd, _⟩ := ownB_rd i3 (by simp [wcells])
  have hc3 : ws.length ≤ c3 := by
   rcases i3.2 with ⟨h, h0⟩ | ⟨g, cap, cur, h, _, _, hn, _⟩
   ·omega
   ·cases h; exact hn
  have cw := (i2.cell 0).trans rfl
  have l2 := i2.lt
  have HJ := Lib.hid (join_any A3 c3 ws W' hrd hc3 (by omega) hwd)
  have HB4 := Lib.hid i4
  have HKD := Lib.hid hKD
  clear i1 i2 i3 i4 hwd hrd hKD
  gi_wp2_with (refine ⟨trivial, ?_⟩; gi_at_call 186; refine (callsIn_wide.2 HJ.out).mono ?_; rintro e w3 ⟨rfl, hb3⟩)
  have hkd : w3.heap[D]? = some (.deferred (some [])) := (hb3.block D (Array.getElem?_eq_some_iff.1 HKD.out).1).trans HKD.out
  refine leaves_marks [D] _ (by simp) (fun E hE => by simp only [List.mem_cons, List.not_mem_nil, or_false] at hE; rw [hE]; exact hkd) (fun w' hw => ?_)
  refine ⟨_, results_tmp rfl _ _ _, by rw [HWX.out]; rfl, ?_⟩
  exact (HB4.out.trans (hb3.mono HB4.out.size)).trans (hw.below (Nat.le_trans HB4.out.size hb3.size) (fun j hj e => by simp only [List.mem_cons, List.not_mem_nil, or_false] at e; omega))
 case stop =>
  rintro D c pre W' hD hSp hf hKD
  exact hf.elim
end Go.Proofs.YtcbeefbefapicaaGreatDoor

namespace Go.Proofs.YtcbeefbefapicaaGreatDoor
open Go.RowKit Go.Shelf
set_option maxRecDepth 100000
set_option maxHeartbeats 2000000 in
theorem counted_no (g : Value) (n most : Int) (h : ¬ (0 ≤ n ∧ n ≤ most)) (w : World) :
  Calls Tryz.prog 211 #[g, .int .i64 n, .int .i64 most] w fun e w' => e = .returned (sv []) ∧ Below w.heap.size w w' := by
 have hd : decide (0 ≤ n ∧ n ≤ most) = false := decide_eq_false h
 have HD := Lib.hid hd
 have HB := Lib.hid ((Below.refl w.heap.size w).alloc (Nat.le_refl _) (.cells #[.int .i64 n] 3))
 clear hd h
 go_enter Tryz.func211, Tryz.ntmps211
 go_wp2_with (go_at_call 77; refine (between_any _ _ _ _).mono ?_; rw [HD.out]; rintro e w' ⟨rfl, rfl⟩)
 go_ret
 exact ⟨rfl, HB.out⟩
set_option maxHeartbeats 2000000 in
theorem counted_zero (g : Value) (most : Int) (h : 0 ≤ most) (w : World) :
  Calls Tryz.prog 211 #[g, .int .i64 0, .int .i64 most] w fun e w' => e = .returned (sv Cs.zeroL) ∧ Below w.heap.size w w' := by
 have hd : decide ((0 : Int) ≤ 0 ∧ 0 ≤ most) = true := decide_eq_true ⟨by omega, h⟩
 have HD := Lib.hid hd
 have HB := Lib.hid ((Below.refl w.heap.size w).alloc (Nat.le_refl _) (.cells #[.int .i64 0] 3))
 clear hd h
 go_enter Tryz.func211, Tryz.ntmps211
 go_wp2_with (go_at_call 77; refine (between_any _ _ _ _).mono ?_; rw [HD.out]; rintro e w' ⟨rfl, rfl⟩)
 go_ret
 exact ⟨rfl, HB.out⟩
theorem counted_any (g : Nat) (us : List Uo) (hus : us.length ≤ 4) (hst : ∀ n, 1 ≤ n → ∀ Kp w, SeqStopsK Fence.wide n Tryz.prog g #[] uvals Kp (fun xs => xs = us) (fun pre => pre <+: us) us.length w)
  (eg : ∀ args w, (callFunc g args).run Tryz.prog w = .ok (.enter g args) w) (n most : Int) (h2 : most ≤ 1000000000000) (h3 : 0 ≤ most) (w : World) (hE : Env w) :
  Calls Tryz.prog 211 #[.func (.func g) #[] #[], .int .i64 n, .int .i64 most] w fun e w' => e = .returned (sv (Cs.writeF (us.map (·.1)) most n)) ∧ Below w.heap.size w w' := by
 unfold Cs.writeF
 by_cases h : 0 ≤ n ∧ n ≤ most
 ·rw [if_pos h]
  by_cases h0 : n = 0
  ·subst h0
   rw [if_pos rfl]
   exact counted_zero _ most h3 w
  ·rw [if_neg h0]
   exact counted_yes g us hus hst eg n most (by omega) h.2 h2 w hE
 ·rw [if_neg h]
  exact counted_no _ n most h w
set_option maxHeartbeats 2000000 in
theorem Length_any (n : Int) (w : World) (hE : Env w) :
  Calls Tryz.prog 184 #[.int .i64 n] w fun e w' => e = .returned (sv (Cs.lenF n)) ∧ Below w.heap.size w w' := by
 have HC := Lib.hid (counted_any 183 lenO (by decide) (fun n h Kp w => lengths_stops n h Kp w) (enters_of Tryz.func183 (by kernel_rfl) rfl) n 1000000 (by decide) (by decide) w hE)
 clear hE
 go_enter Tryz.func184, Tryz.ntmps184
 go_wp2_with fail
 refine HC.out.mono ?_
 rintro e w1 ⟨rfl, hb1⟩
 rw [sv_def]
 go_wp2_with fail
 go_ret
 exact ⟨rfl, hb1⟩
end Go.Proofs.YtcbeefbefapicaaGreatDoor

namespace Go.Proofs.YtcbeefbefapicaaGreatDoor
open Go.RowKit Go.Shelf
set_option maxRecDepth 100000
attribute [local go_sem] Oper.semAt_some
theorem results_cell1 {P : Program} {fn : Func} {p : Tmp} {ty : TypeId} (h : fn.results = #[.cell p ty]) (tmps : Array Value) (w : World) (g : Nat) (v : Value) (hp : tmps.getD p undef = .pointer (some ⟨g, 0, none⟩))
  (hc : w.cell? ⟨g, 0, none⟩ = some v) (ha : ∀ w, (isAgg ty).run P w = .ok false w) : (results fn tmps).run P w = .ok v w := by
 have hp' : tmps[p]?.getD undef = .pointer (some ⟨g, 0, none⟩) := by simpa using hp
 simp [results, h, hp', asAddr, go_sem, hc, ha, Result.andThen]
def noForm : Value := .iface 9 (.string ⟨#[116, 104, 105, 115, 32, 105, 115, 32, 119, 114, 105, 116, 116, 101, 110, 32, 111, 116, 104, 101, 114, 119, 105, 115, 101]⟩)
set_option maxHeartbeats 1000000 in
theorem number_yes (l : Cs.Bs) (v : Int) (hv : Cs.numF l = some v) (hl : l.length ≤ 1000000) (w : World) :
  Calls Tryz.prog 209 #[sv l] w fun e w' => e = .returned (.int .i64 v) ∧ Below w.heap.size w w' := by
 have HA := Lib.hid (atoi_ok l v hv hl w)
 rw [sv_def]
 clear hv
 go_enter Tryz.func209, Tryz.ntmps209
 go_wp2_with fail
 refine HA.out.mono ?_
 rintro e w1 ⟨rfl, hb1⟩
 go_wp2_with fail
 go_ret
 exact ⟨rfl, hb1⟩
set_option maxHeartbeats 1000000 in
theorem number_no (l : Cs.Bs) (hv : Cs.numF l = none) (hl : l.length ≤ 1000000) (w : World) (hE : Env w) :
  Calls Tryz.prog 209 #[sv l] w fun e w' => e = .panicked [{ v := noForm, recovered := false }] ∧ Below w.heap.size w w' := by
 have HA := Lib.hid (atoi_no l hv hl w hE)
 rw [sv_def]
 clear hv hE
 go_enter Tryz.func209, Tryz.ntmps209
 go_wp2_with fail
 refine HA.out.mono ?_
 rintro e w1 ⟨v, t, p, rfl, hb1⟩
 go_wp2_with fail
 exact ⟨rfl, rfl, hb1⟩
def Rdn (r : Option Int) (e : Ending) : Prop := match r with | some z => e = .returned (.int .i64 z) | none => e = .panicked [{ v := noForm, recovered := false }]
theorem Rdn.some_ {r : Option Int} {z : Int} (h : r = some z) : Rdn r (.returned (.int .i64 z)) := by rw [h]; rfl
theorem Rdn.none_ {r : Option Int} (h : r = none) : Rdn r (.panicked [{ v := noForm, recovered := false }]) := by rw [h]; rfl
theorem Cs.sizeF_none {us : List Cs.Un} {w : Cs.Bs} (h : ∀ v ∈ us, ¬ (w = v.one ∨ w = v.many)) : Cs.sizeF us w = none := by
  induction us with
  | nil => rfl
  | cons u r ih =>
    rw [Cs.sizeF, if_neg (h u List.mem_cons_self)]
    exact ih (fun x hx => h x (List.mem_cons_of_mem _ hx))
theorem Cs.sizeF_at {us r : List Cs.Un} {u : Cs.Un} {w : Cs.Bs} (h : ∀ v ∈ us, ¬ (w = v.one ∨ w = v.many)) (hu : w = u.one ∨ w = u.many) : Cs.sizeF (us ++ u :: r) w = some u.size := by
  induction us with
  | nil => simp [Cs.sizeF, hu]
  | cons v t ih =>
    rw [List.cons_append, Cs.sizeF, if_neg (h v List.mem_cons_self)]
    exact ih (fun x hx => h x (List.mem_cons_of_mem _ hx))
def SizX (w : World) (wd : Cs.Bs) (c : Code) (pre : List Uo) (W : World) : Prop :=
 c = .ret ∧ ∃ (pre' : List Uo) (x : Uo), pre = pre' ++ [x] ∧ (∀ v ∈ pre'.map (·.1), ¬ (wd = v.one ∨ wd = v.many)) ∧ (wd = x.1.one ∨ wd = x.1.many) ∧ Bk W (w.heap.size + 1) 3 #[.int .i64 x.1.size] ∧ Below w.heap.size w W
theorem sizX_own {w : World} {wd : Cs.Bs} {B : Nat} (hB : w.heap.size ≤ B) (c : Code) : OwnFrom B (SizX w wd c) := by
 rintro pre W W' row ⟨h0, pre', x, h1, h2, h3, h4, h5⟩ hg hr
 exact ⟨h0, pre', x, h1, h2, h3, bk_own h4 hg (fun r e => (hr r e).2), below_own h5 hB hg (fun r e => (hr r e).1) h5.size⟩
def SizI (w : World) (wd : Cs.Bs) (pre : List Uo) (W : World) : Prop :=
 (∀ v ∈ pre.map (·.1), ¬ (wd = v.one ∨ wd = v.many)) ∧ Bk W w.heap.size 9 #[.string ⟨wd.toArray⟩] ∧ Bk W (w.heap.size + 1) 3 #[.int .i64 0] ∧ Below w.heap.size w W
theorem sizI_own {w : World} {wd : Cs.Bs} {B : Nat} (hB : w.heap.size ≤ B) : OwnFrom B (SizI w wd) := by
 rintro pre W W' row ⟨h1, h2, h3, h4⟩ hg hr
 exact ⟨h1, bk_own h2 hg (fun r e => (hr r e).2), bk_own h3 hg (fun r e => (hr r e).2), below_own h4 hB hg (fun r e => (hr r e).1) h4.size⟩
set_option maxHeartbeats 8000000 in
theorem size_any (g : Nat) (us : List Uo) (hst : ∀ n, 1 ≤ n → ∀ Kp w, SeqStopsK Fence.wide n Tryz.prog g #[] uvals Kp (fun xs => xs = us) (fun pre => pre <+: us) us.length w)
  (eg : ∀ args w, (callFunc g args).run Tryz.prog w = .ok (.enter g args) w) (wd : Cs.Bs) (w : World) :
  Calls Tryz.prog 210 #[.func (.func g) #[] #[], sv wd] w fun e w' => Rdn (Cs.sizeF (us.map (·.1)) wd) e ∧ Below w.heap.size w w' := by
 rw [sv_def]
 refine (callsIn_wide (n := 3)).1 ?_
 refine callsIn_of_wp_marks Tryz.func210 rfl trivial ?_ rfl
 simp only [Tryz.ntmps210, List.size_toArray, List.length_cons, List.length_nil, Nat.reduceAdd, Nat.reduceSub, Array.replicate_succ, Array.replicate_zero, List.push_toArray, List.append_toArray, List.nil_append, List.cons_append]
 gi_wp2_with (fail)
 have kn := (Bk.new w 9 #[.string ⟨wd.toArray⟩]).alloc (.cells #[.int .i64 0] 3)
 have kw := Bk.new (w.alloc (.cells #[.string ⟨wd.toArray⟩] 9)) 3 #[.int .i64 0]
 have hB0 := ((Below.refl w.heap.size w).alloc (Nat.le_refl _) (.cells #[.string ⟨wd.toArray⟩] 9)).alloc (by simp) (.cells #[.int .i64 0] 3)
 have e0 : ((w.alloc (.cells #[.string ⟨wd.toArray⟩] 9)).alloc (.cells #[.int .i64 0] 3)).heap.size = w.heap.size + 2 := by simp
 rw [World.size_alloc] at kw
 obtain ⟨W0, hW0⟩ : ∃ W0, ((w.alloc (.cells #[.string ⟨wd.toArray⟩] 9)).alloc (.cells #[.int .i64 0] 3)) = W0 := ⟨_, rfl⟩
 rw [hW0] at kn kw hB0 e0 ⊢
 clear hW0
 have hz0 : W0.heap.size ≤ w.heap.size + 2 := by omega
 have hz1 : w.heap.size + 2 ≤ W0.heap.size := by omega
 clear e0
 have HST := Lib.hid hst
 have EG := Lib.hid eg
 clear hst eg
 refine wpIn_rangeFunc_ownH (F := Fence.wide) (n := 3) rfl (by omega) (gf := g) (lb := #[]) rfl trivial EG.out
  (HST.out 2 (by omega) (fun _ _ => True) W0) (fun _ _ => trivial) (fun _ _ _ _ _ _ _ _ => trivial) (Below.refl _ _) (fun _ => rfl)
  (SizI w wd)
  (SizX w wd)
  (sizI_own (by omega))
  (sizX_own (by omega))
  ⟨(fun v hv => by cases hv), kn, kw, hB0⟩
  (fun x a' W' => ∃ Bx, W0.heap.size ≤ Bx ∧ Bk W' Bx 253 #[.string ⟨x.1.one.toArray⟩, .string ⟨x.1.many.toArray⟩, .int .i64 x.1.size] ∧ a' = { tmps := (Value.func (.func g) #[] #[] :: Value.string ⟨wd.toArray⟩ :: undef :: Value.pointer (some ⟨w.heap.size, 0, none⟩) :: Value.pointer (some ⟨w.heap.size + 1, 0, none⟩) :: Value.pointer (some ⟨Bx, 0, none⟩) :: Value.func (.func g) #[] #[] :: Value.agg #[.string ⟨x.1.one.toArray⟩, .string ⟨x.1.many.toArray⟩, .int .i64 x.1.size] :: undef :: undef :: undef :: undef :: undef :: undef :: undef :: undef :: undef :: undef :: undef :: undef :: undef :: []).toArray, defers := [] })
  (fun x a' _ X Y row hs hg hr => by obtain ⟨Bx, h1, h2, h3⟩ := hs; exact ⟨Bx, h1, bk_own h2 hg (fun r e => (hr r e).2), h3⟩)
  ?assign ?body ?done ?stop
 case assign =>
  rintro l pre x W' KK i1 hKK
  rw [show uvals x = #[.agg #[.string ⟨x.1.one.toArray⟩, .string ⟨x.1.many.toArray⟩, .int .i64 x.1.size]] from rfl]
  have hBW : W0.heap.size ≤ W'.heap.size := by
   have := i1.2.2.1.lt
   omega
  have i2 : SizI w wd pre (W'.alloc (.cells #[.string ⟨x.1.one.toArray⟩, .string ⟨x.1.many.toArray⟩, .int .i64 x.1.size] 253)) := by
   obtain ⟨q1, q2, q3, q4⟩ := i1
   exact ⟨q1, q2.alloc _, q3.alloc _, q4.alloc q4.size _⟩
  have I2 := Lib.hid i2
  have HKK := Lib.hid hKK
  clear i1 i2 hKK
  gi_wp2_with (fail)
  exact HKK.out _ _ ((KeepsOthers.alloc _ _).from _) trivial I2.out ⟨W'.heap.size, hBW, Bk.new W' _ _, rfl⟩
 case body =>
  rintro l' pre x a' W' hl' ⟨rr, hr⟩ ⟨i1, i2, i3, i4⟩ ⟨Bx, hBx, bX, rfl⟩ hltp
  obtain ⟨u, hu⟩ := x
  dsimp only at bX ⊢
  have x0 := (bX.cell 0).trans rfl
  have x1 := (bX.cell 1).trans rfl
  have x2 := (bX.cell 2).trans rfl
  have c0 := (i2.cell 0).trans rfl
  have c1 := (i3.cell 0).trans rfl
  have f1 := i3.frozen 0
  have lX := bX.lt
  have l1 := i2.lt
  have l2 := i3.lt
  have hNO := Lib.hid (show ¬ (wd = u.one ∨ wd = u.many) → SizI w wd (pre ++ [(⟨u, hu⟩ : Uo)]) W' from fun hno => ⟨fun v hv => by
   rw [List.map_append, List.mem_append] at hv
   rcases hv with hv | hv
   ·exact i1 v hv
   ·simp only [List.map_cons, List.map_nil, List.mem_cons, List.not_mem_nil, or_false] at hv
    rw [hv]; exact hno, i2, i3, i4⟩)
  have hYES := Lib.hid (show (wd = u.one ∨ wd = u.many) → KeepsFrom W0.heap.size W' (W'.setCell ⟨w.heap.size + 1, 0, none⟩ (.int .i64 u.size)) ∧ SizX w wd .ret (pre ++ [(⟨u, hu⟩ : Uo)]) (W'.setCell ⟨w.heap.size + 1, 0, none⟩ (.int .i64 u.size)) from fun h =>
   ⟨(KeepsOthers.setCell _ _ _).from _, rfl, pre, ⟨u, hu⟩, rfl, i1, h, i3.set 0 _, i4.setCell (p := ⟨w.heap.size + 1, 0, none⟩) (by simp) _⟩)
  rcases h1 : (wd == u.one) with _ | _
  ·rcases h2 : (wd == u.many) with _ | _
   ·have HF := Lib.hid (hNO.out (fun e => by rcases e with e | e <;> simp [e] at h1 h2))
    clear i1 i2 i3 i4 bX hNO hYES
    gi_wp2_with (fail)
    exact ⟨⟨Nat.le_refl _, fun _ _ _ h _ => h⟩, trivial, HF.out⟩
   ·have HF := Lib.hid (hYES.out (.inr (by simpa using h2)))
    clear i1 i2 i3 i4 bX hNO hYES
    gi_wp2_with (fail)
    exact HF.out
  ·have HF := Lib.hid (hYES.out (.inl (by simpa using h1)))
   clear i1 i2 i3 i4 bX hNO hYES
   rcases h2 : (wd == u.many) with _ | _
   all_goals
    gi_wp2_with (fail)
    exact HF.out
 case done =>
  rintro D xs W' hD rfl ⟨i1, i2, i3, i4⟩ hKD
  have hno := Cs.sizeF_none i1
  have HB4 := Lib.hid i4
  have HKD := Lib.hid hKD
  have HNO := Lib.hid hno
  clear i1 i2 i3 i4 hKD hno
  gi_wp2_with (fail)
  refine leaves_marks_panic [D] _ (by simp) (fun E hE => by simp only [List.mem_cons, List.not_mem_nil, or_false] at hE; rw [hE]; exact HKD.out) (fun w' hw => ?_)
  refine ⟨Rdn.none_ HNO.out, ?_⟩
  exact HB4.out.trans (hw.below HB4.out.size (fun j hj e => by simp only [List.mem_cons, List.not_mem_nil, or_false] at e; omega))
 case stop =>
  rintro D c pre W' hD hSp ⟨rfl, pre', x, rfl, hno, hyes, k3, hB4⟩ hKD
  obtain ⟨rest, hrest⟩ := hSp
  have hsz : Cs.sizeF (us.map (·.1)) wd = some x.1.size := by
   rw [← hrest]
   simp only [List.map_append, List.map_cons, List.map_nil, List.append_assoc, List.singleton_append]
   exact Cs.sizeF_at hno hyes
  have c1 := (k3.cell 0).trans rfl
  have l1 := k3.lt
  have HB4 := Lib.hid hB4
  have HKD := Lib.hid hKD
  have HSZ := Lib.hid hsz
  have HK3 := Lib.hid k3
  clear hB4 hKD hsz k3 hno hyes hrest
  gi_wp2_with (fail)
  refine leaves_marks [D] _ (by simp) (fun E hE => by simp only [List.mem_cons, List.not_mem_nil, or_false] at hE; rw [hE]; exact HKD.out) (fun w' hw => ?_)
  have c9 := ((hw.bk HK3.out l1 (fun e => by simp only [List.mem_cons, List.not_mem_nil, or_false] at e; omega)).cell 0).trans rfl
  refine ⟨_, results_cell1 rfl _ _ _ _ rfl c9 Tryz.isAgg3, ?_⟩
  refine ⟨Rdn.some_ HSZ.out, ?_⟩
  exact HB4.out.trans (hw.below HB4.out.size (fun j hj e => by simp only [List.mem_cons, List.not_mem_nil, or_false] at e; omega))
end Go.Proofs.YtcbeefbefapicaaGreatDoor
