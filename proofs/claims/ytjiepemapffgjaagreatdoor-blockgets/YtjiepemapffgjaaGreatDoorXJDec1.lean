import Derived.Test.YtjiepemapffgjaaGreatDoorXHCoiB
set_option maxRecDepth 100000
namespace Go.Proofs.YtjiepemapffgjaaGreatDoor.Coi
open Go.RowKit
open Mem Num Cod
set_option linter.unusedVariables false
structure DR (w0 : World) (g : Nat) (p : PS) (w : World) : Prop where
 rd : ∃ S a, RR w g S a p.e ∧ a ≤ S.size ∧ rest S a = p.s ∧ S.size ≤ 1000000
 ch : Ch g w0 w
section
variable {w0 w w' : World} {g : Nat} {p p' : PS}
theorem DR.q (h : DR w0 g p w) (q : Q w w') : DR w0 g p w' := by
 obtain ⟨S, a, h1, h2⟩ := h.rd
 exact ⟨⟨S, a, h1.q q, h2⟩, h.ch.trans (Ch.of_q q g)⟩
theorem DR.up (h : DR w0 g p w) : DR w g p w := ⟨h.rd, Ch.refl _ _⟩
theorem DR.over (h : DR w0 g p w) (k : DR w g p' w') : DR w0 g p' w' := ⟨k.rd, h.ch.trans k.ch⟩
theorem DR.lt (h : DR w0 g p w) : g < w.heap.size := by obtain ⟨S, a, h1, _⟩ := h.rd; exact h1.lt
theorem DR.e2 (h : DR w0 g p w) : w.cell? ⟨g, 2, none⟩ = some (.int .i64 p.e) := by obtain ⟨S, a, h1, _⟩ := h.rd; exact h1.e2
/-- A block that was not there, or another one, is written: the Reader stays. -/
theorem DR.box {b : Nat} (h : DR w0 g p w) (c : Ch b w w') (hb : w0.heap.size ≤ b) (hne : g ≠ b) : DR w0 g p w' := by
 obtain ⟨S, a, h1, h2⟩ := h.rd
 exact ⟨⟨S, a, h1.ch c hne, h2⟩, ch_high h.ch c hb⟩
theorem DR.z (h : DR w0 g p w) : p.s.size ≤ 1000000 := by
 obtain ⟨S, a, _, _, h3, h4⟩ := h.rd
 rw [← h3, rest_size]; omega
theorem DR.new (s : ByteArray) (hs : s.size ≤ 1000000) (w : World) (t : TypeId) : DR (w.alloc (.cells #[.string s, .int .i64 0, .int .i64 0] t)) w.heap.size ⟨s, 0⟩ (w.alloc (.cells #[.string s, .int .i64 0, .int .i64 0] t)) := by
 have hc : ∀ o, (w.alloc (.cells #[.string s, .int .i64 0, .int .i64 0] t)).cell? ⟨w.heap.size, o, none⟩ = #[Value.string s, .int .i64 0, .int .i64 0][o]? := fun o => by rw [World.cell?_alloc_at _ _ _ _ rfl]
 refine ⟨⟨s, 0, ⟨hc 0, hc 1, hc 2, made_frozen w _ _⟩, Nat.zero_le _, ?_, hs⟩, Ch.refl _ _⟩
 unfold rest
 exact ByteArray.extract_zero_size
theorem DR.byte_l {v : Int} (h : DR w0 g p w) (hv : p.byV = v) (hp : p.byt = p') : Calls Tryz.prog 110 #[.pointer (some ⟨g, 0, none⟩)] w fun r w' => r = .returned (.int .i64 v) ∧ DR w0 g p' w' := by
 subst hv hp
 obtain ⟨S, a, h1, h2, h3, h4⟩ := h.rd
 refine (xbyte_any g S a p.e w h1 (by omega) h2).mono ?_
 rintro r w' ⟨rfl, k1, k2⟩
 refine ⟨by rw [h3]; rfl, ⟨⟨S, rdA a p.e 1 (byE (rest S a)), ?_, ?_, ?_, h4⟩, h.ch.trans k2⟩⟩
 · show RR _ _ _ _ (failE p.e (byE p.s)); rw [← h3]; exact k1
 · refine rdA_le S a p.e 1 _ h2 fun hz => ?_
   unfold byE at hz
   split at hz
   · assumption
   · exact absurd hz (by decide)
 · rw [← rdS_rest, h3]; rfl
theorem DR.num_l {v : Int} (h : DR w0 g p w) (hv : p.nuV = v) (hp : p.num = p') : Calls Tryz.prog 108 #[.pointer (some ⟨g, 0, none⟩)] w fun r w' => r = .returned (.int .u64 v) ∧ DR w0 g p' w' := by
 subst hv hp
 obtain ⟨S, a, h1, h2, h3, h4⟩ := h.rd
 refine (xnum_any g S a p.e w h1 (by omega) h2).mono ?_
 rintro r w' ⟨rfl, k1, k2⟩
 refine ⟨by rw [h3]; rfl, ⟨⟨S, rdA a p.e 8 (getE (rest S a)), ?_, ?_, ?_, h4⟩, h.ch.trans k2⟩⟩
 · show RR _ _ _ _ (failE p.e (getE p.s)); rw [← h3]; exact k1
 · refine rdA_le S a p.e 8 _ h2 fun hz => ?_
   unfold getE at hz
   split at hz
   · assumption
   · exact absurd hz (by decide)
 · rw [← rdS_rest, h3]; rfl
theorem DR.hash_l {v : ByteArray} (h : DR w0 g p w) (hv : p.haV = v) (hp : p.has = p') : Calls Tryz.prog 109 #[.pointer (some ⟨g, 0, none⟩)] w fun r w' => r = .returned (.string v) ∧ DR w0 g p' w' := by
 subst hv hp
 obtain ⟨S, a, h1, h2, h3, h4⟩ := h.rd
 refine (xhash_any g S a p.e w h1 (by omega) h2).mono ?_
 rintro r w' ⟨rfl, k1, k2⟩
 refine ⟨by rw [h3]; rfl, ⟨⟨S, rdA a p.e 16 (haE (rest S a)), ?_, ?_, ?_, h4⟩, h.ch.trans k2⟩⟩
 · show RR _ _ _ _ (failE p.e (haE p.s)); rw [← h3]; exact k1
 · refine rdA_le S a p.e 16 _ h2 fun hz => ?_
   unfold haE at hz
   split at hz
   · assumption
   · exact absurd hz (by decide)
 · rw [← rdS_rest, h3]; rfl
theorem blE_le {s : ByteArray} {m : Int} (h : blE s m = 0) : 2 + blL s ≤ s.size := by
 unfold blE at h
 split at h
 · exact absurd h (by decide)
 split at h
 · exact absurd h (by decide)
 split at h
 · exact absurd h (by decide)
 omega
theorem DR.blob_l {m : Int} {v : ByteArray} (h : DR w0 g p w) (hv : p.blV m = v) (hp : p.blo m = p') : Calls Tryz.prog 91 #[.pointer (some ⟨g, 0, none⟩), .int .i64 m] w fun r w' => r = .returned (.string v) ∧ DR w0 g p' w' := by
 subst hv hp
 obtain ⟨S, a, h1, h2, h3, h4⟩ := h.rd
 refine (xblob_any g S a p.e m w h1 (by omega) h2).mono ?_
 rintro r w' ⟨rfl, k1, k2⟩
 refine ⟨by rw [h3]; rfl, ⟨⟨S, rdA a p.e (2 + blL (rest S a)) (blE (rest S a) m), ?_, ?_, ?_, h4⟩, h.ch.trans k2⟩⟩
 · show RR _ _ _ _ (failE p.e (blE p.s m)); rw [← h3]; exact k1
 · exact rdA_le S a p.e _ _ h2 fun hz => blE_le hz
 · rw [← rdS_rest, h3]; rfl
theorem DR.fail_l {f : Int} (h : DR w0 g p w) (hp : p.fl f = p') : Calls Tryz.prog 111 #[.pointer (some ⟨g, 0, none⟩), .int .i64 f] w fun r w' => r = .returned (.tuple #[]) ∧ DR w0 g p' w' := by
 subst hp
 obtain ⟨S, a, h1, h2, h3, h4⟩ := h.rd
 exact (xfail_any g S a p.e f w h1).mono fun r w' ⟨x, y, z⟩ => ⟨x, ⟨S, a, y, h2, h3, h4⟩, h.ch.trans z⟩
theorem DR.end_l {v : Int} (h : DR w0 g p w) (hv : p.en = v) : Calls Tryz.prog 144 #[.pointer (some ⟨g, 0, none⟩)] w fun r w' => r = .returned (.int .i64 v) ∧ Q w w' := by
 subst hv
 obtain ⟨S, a, h1, h2, h3, h4⟩ := h.rd
 exact (xend_any g S a p.e w h1 (by omega) h2).mono fun r w' ⟨x, y⟩ => ⟨by rw [x, h3]; rfl, y⟩
theorem DR.left_l {v : Int} (h : DR w0 g p w) (hv : (p.s.size : Int) = v) : Calls Tryz.prog 94 #[.pointer (some ⟨g, 0, none⟩)] w fun r w' => r = .returned (.int .i64 v) ∧ Q w w' := by
 subst hv
 obtain ⟨S, a, h1, h2, h3, h4⟩ := h.rd
 exact (xleft_any g S a p.e w h1 (by omega) h2).mono fun r w' ⟨x, y⟩ => ⟨by rw [x, h3], y⟩
end
end Go.Proofs.YtjiepemapffgjaaGreatDoor.Coi
