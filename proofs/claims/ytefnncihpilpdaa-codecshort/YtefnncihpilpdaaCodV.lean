/-
  Layer 3: the program's Writer beside the document's: part by part both wrote the same.
-/
import Derived.Test.YtefnncihpilpdaaCodC
namespace Go.Proofs.Ytefnncihpilpdaa.Cod
open Go.RowKit
open Mem Num
set_option linter.unusedVariables false

structure WI (W : World) (gw gx : Nat) (S : ByteArray) (e : Int) (n : Nat) (w : World) : Prop where
  wr : WR w gw gx (if e = 0 then S else ByteArray.empty) e
  xr : RD w gx S e
  q : Q W w
  hS : S.size ≤ n * 6000
  hg : W.heap.size ≤ gw
  hlt : gw < gx
/-- Behind the program's put. -/
structure WH (W : World) (gw gx : Nat) (S : ByteArray) (e : Int) (t : ByteArray) (pe : Int) (n : Nat) (w : World) : Prop where
  wr : WR w gw gx (wrT (if e = 0 then S else ByteArray.empty) e t pe) (failE e pe)
  xr : RD w gx S e
  q : Q W w
  hS : S.size ≤ n * 6000
  hg : W.heap.size ≤ gw
  hlt : gw < gx
section
variable {W w w' : World} {gw gx : Nat} {S t : ByteArray} {e pe : Int} {n : Nat}
theorem WI.up (h : WI W gw gx S e n w) (q : Q w w') : WI W gw gx S e n w' := ⟨h.wr.q q, h.xr.q q, h.q.trans q, h.hS, h.hg, h.hlt⟩
theorem WI.size (h : WI W gw gx S e n w) (hn : n ≤ 20) : (if e = 0 then S else ByteArray.empty).size ≤ 100000000 := by
  have := h.hS
  split
  · omega
  · decide
theorem WI.put (h : WI W gw gx S e n w) {r : Ending} (d : WDone gw gx (if e = 0 then S else ByteArray.empty) e t pe w r w') : WH W gw gx S e t pe n w' :=
  ⟨d.2.1, h.xr.ch d.2.2 (by have := h.hlt; omega), d.2.2.q h.q h.hg, h.hS, h.hg, h.hlt⟩
theorem wrT_xwT (S t : ByteArray) (e pe : Int) : wrT (if e = 0 then S else ByteArray.empty) e t pe = if failE e pe = 0 then xwT S t pe else ByteArray.empty := by
  unfold wrT failE xwT
  by_cases he : e = 0
  · subst he
    simp
    by_cases hp : pe = 0
    · simp [hp]
    · simp [hp]
  · simp [he]
theorem WH.put (h : WH W gw gx S e t pe n w) (ht : t.size ≤ 6000) {r : Ending} (d : XDone gx S e t pe w r w') : WI W gw gx (xwT S t pe) (failE e pe) (n + 1) w' := by
  refine ⟨?_, d.2.1, d.2.2.q h.q (by have := h.hg; have := h.hlt; omega), ?_, h.hg, h.hlt⟩
  · rw [← wrT_xwT]
    exact h.wr.ch' d.2.2 (by have := h.hlt; omega) (Nat.le_refl _)
  · have := h.hS
    by_cases hp : pe = 0
    · have e1 : (xwT S t pe).size = S.size + t.size := by unfold xwT; rw [if_pos hp, ByteArray.size_append]
      omega
    · have e1 : (xwT S t pe).size = S.size := by unfold xwT; rw [if_neg hp]
      omega
end
theorem pT_size (p : Pt) (h : p.s.size ≤ 5000) : (pT p).size ≤ 6000 := by
  unfold pT
  split
  · rw [strOfNums_size]; simp
  · split
    · rw [putS_size]; omega
    · split
      · rw [blobS_size]; omega
      · omega
theorem cutP_size (p : Pt) : (cutP p).s.size ≤ 5000 := cut_le p.s 5000 5000 rfl
theorem WI.start (W V : World) (q : Q W V) (t u : TypeId) : WI W V.heap.size (V.heap.size + 1) ByteArray.empty 0 0 ((V.alloc (newO t)).alloc (.cells #[.string ⟨#[]⟩, .int .i64 0] u)) := by
  have z1 : (V.alloc (newO t)).heap.size = V.heap.size + 1 := by simp
  have hc : ∀ o, ((V.alloc (newO t)).alloc (.cells #[.string ⟨#[]⟩, .int .i64 0] u)).cell? ⟨V.heap.size + 1, o, none⟩ = #[Value.string ⟨#[]⟩, .int .i64 0][o]? := fun o => by rw [World.cell?_alloc_at _ _ _ _ (by simp)]
  refine ⟨?_, ⟨hc 0, hc 1, fun j => ?_⟩, (q.alloc _).alloc _, by decide, q.size, by omega⟩
  · rw [if_pos rfl]
    exact WR.among (V := V) rfl ((Q.refl _).alloc _) (by omega) (by simp)
  · have := made_frozen (V.alloc (newO t)) #[.string ⟨#[]⟩, .int .i64 0] u j
    rwa [z1] at this
end Go.Proofs.Ytefnncihpilpdaa.Cod
