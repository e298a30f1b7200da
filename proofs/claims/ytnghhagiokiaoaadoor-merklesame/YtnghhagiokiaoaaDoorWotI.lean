/-
  Layer 6: the program's places, gone over by a function.
-/
import Derived.Test.YtnghhagiokiaoaaDoorArr
import Derived.RangeFuncNested
import Derived.RangeFuncBound
import Derived.RangeFuncCalls
import Derived.RangeFuncLeaves
import Derived.Shelf.Abstract
import Derived.Shelf.RegionOpen
import Derived.OwnWalkIn
import Derived.TacticsInMore
import Derived.LoopNIn
import Derived.LoopIn
namespace Go.Proofs.YtnghhagiokiaoaaDoor.Wot
open Go.RowKit Go.Shelf
open Mem
set_option linter.unusedVariables false
attribute [local go_sem] Oper.semAt_some

/-- A place. -/
abbrev Pl := { i : Nat // i < 18 }
def pl (i : Nat) : Pl := ⟨i % 18, Nat.mod_lt _ (by decide)⟩
/-- The first places, in order. -/
def upto (k : Nat) : List Pl := (List.range k).map pl
theorem upto_len (k : Nat) : (upto k).length = k := by unfold upto; simp
theorem upto_succ (k : Nat) : upto (k + 1) = upto k ++ [pl k] := by unfold upto; rw [List.range_succ, List.map_append]; rfl
theorem pl_val (k : Nat) (h : k < 18) : (pl k).1 = k := Nat.mod_eq_of_lt h
def encP (x : Pl) : Array Value := #[.int .i64 (x.1 : Int)]

set_option maxHeartbeats 1000000 in
theorem each_stops (F : Fence) (n : Nat) (h : F.fn 80) (hro : F.round = none) (hn : 1 ≤ n) (w : World) :
    SeqStopsK F n Tryd.prog 80 #[] encP (fun _ _ => True) (fun xs => xs = upto 18) (fun _ => True) 18 w := fun l J Jx W _ _ _ hY h0 => by
  refine callsIn_of_wp Tryd.func80 rfl h ?_ hro
  simp only [Tryd.ntmps80, List.size_toArray, List.length_cons, List.length_nil, Nat.reduceAdd, Nat.reduceSub, Array.replicate_succ, Array.replicate_zero, List.push_toArray, List.append_toArray, List.nil_append, List.cons_append]
  gi_wp2
  gi_loopw [3] (fun p wr => ∃ k : Nat, k ≤ 18 ∧ p = .int .i64 k ∧ J (upto k) wr) (fun p _ => 18 - (intOf p).toNat)
  case atStart => exact ⟨0, by omega, rfl, h0⟩
  case round =>
    obtain ⟨k, hk, rfl, hJ⟩ := hrel
    by_cases hlt : k < 18
    · have k0 : (0 : Int) ≤ (k : Int) := by omega
      have k1 : (k : Int) < 18 := by omega
      obtain ⟨fn, tmps, assign, body, hy, hR⟩ := hY (upto k) (pl k) wr hJ (by rw [upto_len]; exact hlt)
      unfold encP at hy
      rw [pl_val k hlt] at hy
      gi_wp2
      refine hR.mono ?_
      rintro e W3 (⟨rfl, hJ3, _⟩ | ⟨rfl, hJx3⟩)
      · gi_wp2
        exact ⟨⟨k + 1, by omega, by go_num, by rw [upto_succ]; exact hJ3⟩, by simp [intOf]; omega⟩
      · gi_wp2
        refine bodyPost_ret (results_none rfl _ _ _) rfl ?_
        exact ⟨⟨_, rfl⟩, .inr ⟨_, trivial, hJx3⟩⟩
    · obtain rfl : k = 18 := by omega
      gi_wp2
      go_end0
      exact ⟨⟨_, rfl⟩, .inl ⟨_, rfl, hJ⟩⟩
end Go.Proofs.YtnghhagiokiaoaaDoor.Wot
