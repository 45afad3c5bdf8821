/-
  What the claims of layer deed need of the texts Uni.
-/
import Derived.RangeFuncKeeps
import Derived.Test.YtcbeefbefapicaaGreatDoorBn04
set_option linter.unusedVariables false
set_option linter.unusedSimpArgs false
namespace Go.Proofs.YtcbeefbefapicaaGreatDoor
open Go.RowKit Go.Shelf
set_option maxRecDepth 100000
attribute [local go_sem] Oper.semAt_some
def uval (u : Cs.Un) : Value := .agg #[sv u.one, sv u.many, .int .i64 u.size]
def UOk (u : Cs.Un) : Prop := Cs.Wd u.one ∧ Cs.Wd u.many ∧ 0 < u.size ∧ u.size ≤ 100000 ∧ u.one.length ≤ 10 ∧ u.many.length ≤ 10
abbrev Uo := { u : Cs.Un // UOk u }
def oChain : Uo := ⟨Cs.uChain, by simp [UOk, Cs.Wd, Cs.uChain]⟩
def oPole : Uo := ⟨Cs.uPole, by simp [UOk, Cs.Wd, Cs.uPole]⟩
def oLink : Uo := ⟨Cs.uLink, by simp [UOk, Cs.Wd, Cs.uLink]⟩
def lenO : List Uo := [oChain, oPole, oLink]
def uvals (u : Uo) : Array Value := #[uval u.1]
set_option maxHeartbeats 4000000 in
theorem lengths_stops (n : Nat) (hn : 1 ≤ n) (Kp : World → World → Prop) (w : World) :
  SeqStopsK Fence.wide n Tryz.prog 183 #[] uvals Kp (fun xs => xs = lenO) (fun pre => pre <+: lenO) 3 w := fun l J Jx W _ _ _ hY h0 => by
 refine callsIn_of_wp Tryz.func183 rfl trivial ?_ rfl
 simp only [Tryz.ntmps183, List.size_toArray, List.length_cons, List.length_nil, Nat.reduceAdd, Nat.reduceSub, Array.replicate_succ, Array.replicate_zero, List.push_toArray, List.append_toArray, List.nil_append, List.cons_append]
 have HY := Lib.hid hY
 clear hY
 obtain ⟨f0, t0, a0, b0, hy0, hR0⟩ := HY.out [] oChain W h0 (by simp)
 rw [show uvals oChain = #[.agg #[.string ⟨#[99, 104, 97, 105, 110]⟩, .string ⟨#[99, 104, 97, 105, 110, 115]⟩, .int .i64 100]] from rfl] at hy0
 gi_wp2_with (fail)
 refine hR0.mono ?_
 rintro e W0 (⟨rfl, hJ0, _⟩ | ⟨rfl, hx0⟩)
 ·obtain ⟨f1, t1, a1, b1, hy1, hR1⟩ := HY.out [oChain] oPole W0 hJ0 (by simp)
  rw [show uvals oPole = #[.agg #[.string ⟨#[112, 111, 108, 101]⟩, .string ⟨#[112, 111, 108, 101, 115]⟩, .int .i64 25]] from rfl] at hy1
  gi_wp2_with (fail)
  refine hR1.mono ?_
  rintro e W1 (⟨rfl, hJ1, _⟩ | ⟨rfl, hx1⟩)
  ·obtain ⟨f2, t2, a2, b2, hy2, hR2⟩ := HY.out [oChain, oPole] oLink W1 hJ1 (by simp)
   rw [show uvals oLink = #[.agg #[.string ⟨#[108, 105, 110, 107]⟩, .string ⟨#[108, 105, 110, 107, 115]⟩, .int .i64 1]] from rfl] at hy2
   gi_wp2_with (fail)
   refine hR2.mono ?_
   rintro e W2 (⟨rfl, hJ2, _⟩ | ⟨rfl, hx2⟩)
   ·gi_wp2_with (fail)
    go_end0
    exact ⟨⟨_, rfl⟩, .inl ⟨lenO, rfl, hJ2⟩⟩
   ·gi_wp2_with (refine ⟨fun _ h => (by cases h), ?_⟩)
    go_end0
    exact ⟨⟨_, rfl⟩, .inr ⟨[oChain, oPole, oLink], ⟨[], rfl⟩, hx2⟩⟩
  ·gi_wp2_with (refine ⟨fun _ h => (by cases h), ?_⟩)
   go_end0
   exact ⟨⟨_, rfl⟩, .inr ⟨[oChain, oPole], ⟨[oLink], rfl⟩, hx1⟩⟩
 ·gi_wp2_with (refine ⟨fun _ h => (by cases h), ?_⟩)
  go_end0
  exact ⟨⟨_, rfl⟩, .inr ⟨[oChain], ⟨[oPole, oLink], rfl⟩, hx0⟩⟩
end Go.Proofs.YtcbeefbefapicaaGreatDoor
