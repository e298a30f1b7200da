import Derived.Test.YtjiepemapffgjaaGreatDoorXJBloB
set_option maxRecDepth 100000
namespace Go.Proofs.YtjiepemapffgjaaGreatDoor.Coi
open Go.RowKit
open Mem Num Cod
set_option linter.unusedVariables false
set_option linter.unusedSimpArgs false
section
variable {sm sm' : Int → Int} {s : ByteArray}
theorem bk_x0 (h : s.size = 0) : bkE sm s = 3 := by
 have e : s = ByteArray.empty := ByteArray.size_eq_zero_iff.1 h
 rw [e]; exact bk_empty
theorem fst_v (h : 0 < s.size) : (PS.mk s 0).byV = PlainAid.bt s 0 ∧ (PS.mk s 0).byt = ⟨s.extract 1 s.size, 0⟩ := by
 have e : byE s = 0 := by unfold byE; rw [if_pos (by omega)]
 constructor
 · unfold PS.byV rdV; dsimp only; rw [e, if_pos ⟨rfl, rfl⟩]
 · unfold PS.byt rdS failE; dsimp only; rw [e, if_pos ⟨rfl, rfl⟩, if_pos rfl]
theorem bk_x1 (h : 0 < s.size) (hb : PlainAid.bt s 0 ≠ 66) : bkE sm s = 4 := by
 refine bk_e3 (by decide) ?_
 obtain ⟨h1, h2⟩ := fst_v h
 unfold bkP; rw [h1, if_neg hb, h2]; rfl
theorem bkP_1 (h : 0 < s.size) (hb : PlainAid.bt s 0 = 66) : bkP s = ⟨s.extract 1 s.size, 0⟩ := by
 obtain ⟨h1, h2⟩ := fst_v h
 unfold bkP; rw [h1, if_pos hb, h2]
theorem bk_f (h : (bkF sm s (bkN s)).e ≠ 0) : bkE sm s = (bkF sm s (bkN s)).e := by
 unfold bkE bkG
 split
 · exact PS.en_err h
 · rw [PS.fl_err h]; exact PS.en_err h
theorem fl4_ne (p : PS) : (p.fl 4).e ≠ 0 := fun h => absurd (PS.fl_ok h).2 (by decide)
theorem bk_x2 (h : 8 < (bkC s).byV) : bkE sm s = ((bkC s).byt.fl 4).e := by
 have hN : bkN s = 0 := by unfold bkN tn; rw [if_neg (by omega)]
 have ht : tnP (bkC s) = (bkC s).byt.fl 4 := by unfold tnP; rw [if_neg (by omega)]
 have hF : bkF sm s (bkN s) = (bkC s).byt.fl 4 := by
  have e : bkF sm s (bkN s) = bkQ s (bkN s) := by rw [hN]; show bkQ s (bkN s) = _; rw [hN]
  rw [e, hN]; exact ht
 rw [bk_f (by rw [hF]; exact fl4_ne _), hF]
theorem bk_x3 (h : (bkQ s (bkN s)).e ≠ 0) : bkE sm s = (bkQ s (bkN s)).e := by
 have e := bkF_err (sm := sm) h (bkN s)
 rw [bk_f (by rw [e]; exact h), e]
theorem bk_x4 (h0 : (bkQ s (bkN s)).e = 0) {i : Nat} (hi : i < bkN s) (hz : ∀ j, j < i → deE sm (bkT s j) = 0) {e : Int} (he : deE sm (bkT s i) = e) (hne : e ≠ 0) : bkE sm s = e := by
 have e1 : (bkF sm s (i + 1)).e = e := by
  show ((bkF sm s i).fl (deE sm (bkT s i))).e = _
  rw [bkF_go h0 i hz, he]
  show failE _ _ = _
  unfold failE; rw [if_pos h0]
 have e2 : ∀ d, (bkF sm s (i + 1 + d)).e = e := by
  intro d
  induction d with
  | zero => exact e1
  | succ d ih =>
   show ((bkF sm s (i + 1 + d)).fl _).e = _
   rw [PS.fl_err (by rw [ih]; exact hne)]; exact ih
 have e3 := e2 (bkN s - (i + 1))
 rw [show i + 1 + (bkN s - (i + 1)) = bkN s by omega] at e3
 rw [bk_f (by rw [e3]; exact hne), e3]
theorem bk_x5 (h0 : (bkQ s (bkN s)).e = 0) (hz : ∀ j, j < bkN s → deE sm (bkT s j) = 0) (h : 0 < (bkQ s (bkN s)).s.size ∨ ¬ RightK (bkX sm s)) : bkE sm s = 4 := by
 have e := bkF_go (sm := sm) h0 (bkN s) hz
 unfold bkE bkG
 rw [e]
 have f4 : ((bkQ s (bkN s)).fl 4).e = 4 := by show failE _ _ = _; unfold failE; rw [if_pos h0]
 by_cases hr : RightK (bkX sm s)
 · rw [if_pos hr]
   have hs := h.resolve_right (fun x => x hr)
   obtain ⟨q, qe⟩ : ∃ q, bkQ s (bkN s) = q := ⟨_, rfl⟩
   rw [qe] at h0 hs ⊢
   obtain ⟨qs, qe2⟩ := q
   dsimp only at h0 hs
   rw [h0]; exact PS.en_more qs hs
 · rw [if_neg hr, PS.en_err (by rw [f4]; decide), f4]
theorem bk_x6 (h0 : (bkQ s (bkN s)).e = 0) (hz : ∀ j, j < bkN s → deE sm (bkT s j) = 0) (hs : (bkQ s (bkN s)).s.size = 0) (hr : RightK (bkX sm s)) : bkE sm s = 0 := by
 have e := bkF_go (sm := sm) h0 (bkN s) hz
 unfold bkE bkG
 rw [e, if_pos hr]
 obtain ⟨q, qe⟩ : ∃ q, bkQ s (bkN s) = q := ⟨_, rfl⟩
 rw [qe] at h0 hs ⊢
 obtain ⟨qs, qe2⟩ := q
 dsimp only at h0 hs
 rw [h0, ByteArray.size_eq_zero_iff.1 hs]; exact PS.en_empty
theorem bk_big (hm : Small sm) (h : 4294967295 < (bkP s).nuV) : ¬ RightK (bkX sm s) := by
 intro hr
 have r1 : 1 ≤ sm (bkP s).nuV := hr.1
 have r2 : sm (bkP s).nuV ≤ 4294967295 := hr.2.1
 have b := PS.nuV_in (bkP s)
 by_cases hb : (bkP s).nuV ≤ 9223372036854775807
 · have := hm.in_ _ b.1 hb; omega
 · have := hm.out (bkP s).nuV (by omega) b.2; omega
theorem num_two (hm : Small sm) (hm' : Small sm') {n : Int} (hn : U64 n) (h : 1 ≤ sm n) : sm' n = sm n := by
 by_cases hb : n ≤ 9223372036854775807
 · rw [hm.in_ _ hn.1 hb, hm'.in_ _ hn.1 hb]
 · have := hm.out n (by omega) hn.2; omega
theorem bkX_two (hm : Small sm) (hm' : Small sm') (h : RightK (bkX sm s)) : SamK (bkX sm s) (bkX sm' s) ∧ RightK (bkX sm' s) := by
 have e := num_two hm hm' (PS.nuV_in (bkP s)) h.1
 have t : ∀ i, SamT (deV sm (bkT s i)) (deV sm' (bkT s i)) := fun i => (deE_two hm hm' _).2
 refine ⟨⟨e.symm, rfl, rfl, fun i _ => t i⟩, ?_, ?_, h.2.2.1, h.2.2.2.1, fun i hi => ?_⟩
 · show 1 ≤ sm' _; rw [e]; exact h.1
 · show sm' _ ≤ _; rw [e]; exact h.2.1
 · exact right_sam (t i).symm (h.2.2.2.2 i hi)
theorem bkF_two (hm : Small sm) (hm' : Small sm') : ∀ i, bkF sm s i = bkF sm' s i
 | 0 => rfl
 | i + 1 => by
  show (bkF sm s i).fl _ = (bkF sm' s i).fl _
  rw [bkF_two hm hm' i, (deE_two hm hm' (bkT s i)).1]
theorem bk_two (hm : Small sm) (hm' : Small sm') : bkE sm s = bkE sm' s ∧ SamK (bkV sm s) (bkV sm' s) := by
 have key : RightK (bkX sm s) ↔ RightK (bkX sm' s) := ⟨fun h => (bkX_two hm hm' h).2, fun h => (bkX_two hm' hm h).2⟩
 have e : bkE sm s = bkE sm' s := by
  unfold bkE bkG
  rw [bkF_two hm hm']
  by_cases h : RightK (bkX sm s)
  · rw [if_pos h, if_pos (key.1 h)]
  · rw [if_neg h, if_neg (fun x => h (key.2 x))]
 refine ⟨e, ?_⟩
 by_cases h : bkE sm s = 0
 · have h' : bkE sm' s = 0 := by rw [← e]; exact h
   unfold bkV; rw [if_pos h, if_pos h']; exact (bkX_two hm hm' (bk_back hm h).1).1
 · have h' : bkE sm' s ≠ 0 := by rw [← e]; exact h
   unfold bkV; rw [if_neg h, if_neg h']; exact ⟨rfl, rfl, rfl, fun i hi => absurd hi (Nat.not_lt_zero _)⟩
end
end Go.Proofs.YtjiepemapffgjaaGreatDoor.Coi
