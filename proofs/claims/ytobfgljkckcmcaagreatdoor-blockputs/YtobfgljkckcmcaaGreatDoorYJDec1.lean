import Derived.Test.YtobfgljkckcmcaaGreatDoorYHCoiB
set_option maxRecDepth 100000
namespace Go.Proofs.YtobfgljkckcmcaaGreatDoor.Coi
open Go.RowKit
open Mem Num Cod
set_option linter.unusedVariables false
structure DR (w0 : World) (g : Nat) (p : PS) (w : World) : Prop where
 rd : ∃ S a, RR w g S a p.e ∧ a ≤ S.size ∧ rest S a = p.s ∧ S.size ≤ 1000000
 ch : Ch g w0 w
section
variable {w0 w w' : World} {g : Nat} {p p' : PS}
theorem DR.q (h : DR w0 g p w) (q : Q w w') : DR w0 g p w' := by
 obtain ⟨S, a, h1, h2⟩ := h.rd
 exact ⟨⟨S, a, h1.q q, h2⟩, h.ch.trans (Ch.of_q q g)⟩
theorem DR.up (h : DR w0 g p w) : DR w g p w := ⟨h.rd, Ch.refl _ _⟩
theorem DR.over (h : DR w0 g p w) (k : DR w g p' w') : DR w0 g p' w' := ⟨k.rd, h.ch.trans k.ch⟩
theorem DR.lt (h : DR w0 g p w) : g < w.heap.size := by obtain ⟨S, a, h1, _⟩ := h.rd; exact h1.lt
theorem DR.e2 (h : DR w0 g p w) : w.cell? ⟨g, 2, none⟩ = some (.int .i64 p.e) := by obtain ⟨S, a, h1, _⟩ := h.rd; exact h1.e2
/-- A block that was not there, or another one, is written: the Reader stays. -/
theorem DR.box {b : Nat} (h : DR w0 g p w) (c : Ch b w w') (hb : w0.heap.size ≤ b) (hne : g ≠ b) : DR w0 g p w' := by
 obtain ⟨S, a, h1, h2⟩ := h.rd
 exact ⟨⟨S, a, h1.ch c hne, h2⟩, ch_high h.ch c hb⟩
theorem DR.z (h : DR w0 g p w) : p.s.size ≤ 1000000 := by
 obtain ⟨S, a, _, _, h3, h4⟩ := h.rd
 rw [← h3, rest_size]; omega
theorem DR.new (s : ByteArray) (hs : s.size ≤ 1000000) (w : World) (t : TypeId) : DR (w.alloc (.cells #[.string s, .int .i64 0, .int .i64 0] t)) w.heap.size ⟨s, 0⟩ (w.alloc (.cells #[.string s, .int .i64 0, .int .i64 0] t)) := by
 have hc : ∀ o, (w.alloc (.cells #[.string s, .int .i64 0, .int .i64 0] t)).cell? ⟨w.heap.size, o, none⟩ = #[Value.string s, .int .i64 0, .int .i64 0][o]? := fun o => by rw [World.cell?_alloc_at _ _ _ _ rfl]
 refine ⟨⟨s, 0, ⟨hc 0, hc 1, hc 2, made_frozen w _ _⟩, Nat.zero_le _, ?_, hs⟩, Ch.refl _ _⟩
 unfold rest
 exact ByteArray.extract_zero_size
theorem blE_le {s : ByteArray} {m : Int} (h : blE s m = 0) : 2 + blL s ≤ s.size := by
 unfold blE at h
 split at h
 · exact absurd h (by decide)
 split at h
 · exact absurd h (by decide)
 split at h
 · exact absurd h (by decide)
 omega
end
end Go.Proofs.YtobfgljkckcmcaaGreatDoor.Coi
