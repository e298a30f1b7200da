/-
  Layer 10: where BlockNames stands: two blocks, of the second of which signatures are written.
-/
import Derived.Test.YtjiepemapffgjaaGreatDoorJBloS
set_option maxRecDepth 100000
namespace Go.Proofs.YtjiepemapffgjaaGreatDoor.Coi
open Go.RowKit
open Mem Num Cod Sh Plan
set_option linter.unusedVariables false
set_option linter.unusedSimpArgs false

/-- The inputs, of which the first k bear another signature. -/
def sigI (t : TX) (s : ByteArray) (k i : Nat) : IN := if i < k then ⟨(t.ins i).tx, (t.ins i).out, (t.ins i).path, s⟩ else t.ins i
/-- So many inputs of the j-th transaction are written. -/
def cnt (u : BKI) (i k j : Nat) : Nat := if j < i then (u.g j).t.nI else if j = i then k else 0
theorem cnt_next (u : BKI) (i j : Nat) : cnt u i (u.g i).t.nI j = cnt u (i + 1) 0 j := by
  unfold cnt
  by_cases h1 : j < i
  · rw [if_pos h1, if_pos (by omega)]
  · rw [if_neg h1]
    by_cases h2 : j = i
    · subst h2; rw [if_pos rfl, if_pos (by omega)]
    · rw [if_neg h2, if_neg (by omega)]
      split <;> rfl
/-- What stays as it is. -/
structure NK (W : World) (b2 b4 N1 N2 : Nat) (y u : BKI) : Prop where
  l2 : b2 < N1
  l4 : N2 ≤ b4
  w1 : W.heap.size ≤ N1
  at_ : ∀ j, j < u.n → ∀ b, (u.g j).at' b → N1 ≤ b ∧ b < N2
  ua : ∀ x, u.a = some x → N1 ≤ x.block ∧ x.block < N2
  ya : ∀ x, y.a = some x → x.block < N1
  yt : ∀ j, j < y.n → ∀ b, (y.g j).at' b → b < N1
  p : ∀ j, j < u.n → Apart (u.g j).aI (u.g j).aO ∧ Apart (u.g j).aI (u.g j).aW
  l : ∀ j, j < u.n → ∀ b, (u.g j).at' b → ∀ x, u.a = some x → b ≠ x.block
  d : ∀ i j, i < j → j < u.n → ∀ b, (u.g i).at' b → ¬ (u.g j).at' b
  c : ∀ j, j < u.n → (u.g j).t.nI ≤ (u.g j).cI
  k : ∀ j, j < u.n → (u.g j).t.ok
/-- Where BlockNames stands: i transactions are done, and of the next one k inputs. -/
structure NN (W : World) (b2 b4 B : Nat) (y u : BKI) (s : ByteArray) (i k : Nat) (w : World) : Prop where
  yb : Box w b2 [.int .i64 y.h, .string y.prev, .slice y.a y.n y.c]
  yo : BO w B y
  ub : Box w b4 [.int .i64 u.h, .string u.prev, .slice u.a u.n u.c]
  o : SL TXI.cells 6 w u.a u.n u.g
  i : ∀ j, j < u.n → (u.g j).t.nI = 0 ∨ ∃ g cs, (u.g j).aI = some ⟨g, 0, none⟩ ∧ Box w g cs ∧ (u.g j).t.nI * 4 ≤ cs.length ∧ ∀ l, l < (u.g j).t.nI → ∀ m v, ((sigI (u.g j).t s (cnt u i k j) l).cells)[m]? = some v → cs[l * 4 + m]? = some v
  oo : ∀ j, j < u.n → SL OU.cells 9 w (u.g j).aO (u.g j).t.nO (u.g j).t.outs
  ww : ∀ j, j < u.n → SL WN.cells 10 w (u.g j).aW (u.g j).t.p.n (u.g j).t.p.w
  q : Q W w
theorem BO.chn {w w' : World} {B g : Nat} {y : BKI} (h : BO w B y) (c : Ch g w w') (h1 : ∀ x, y.a = some x → x.block ≠ g) (h2 : ∀ j, j < y.n → ¬ (y.g j).at' g) : BO w' B y :=
  ⟨h.o.ch c h1, fun i hi => own_ch (h.m i hi) c (h2 i hi), h.p, h.l, h.d, h.k⟩
section
variable {W : World} {b2 b4 B N1 N2 : Nat} {y u : BKI} {s : ByteArray} {i k : Nat} {w w' : World}
theorem NN.up (h : NN W b2 b4 B y u s i k w) (q : Q w w') : NN W b2 b4 B y u s i k w' := by
  refine ⟨h.yb.q q, h.yo.q q, h.ub.q q, h.o.q q, fun j hj => ?_, fun j hj => (h.oo j hj).q q, fun j hj => (h.ww j hj).q q, h.q.trans q⟩
  rcases h.i j hj with e | ⟨g, cs, h1, h2, h3⟩
  · exact .inl e
  · exact .inr ⟨g, cs, h1, h2.q q, h3⟩
theorem NN.next (h : NN W b2 b4 B y u s i (u.g i).t.nI w) : NN W b2 b4 B y u s (i + 1) 0 w := by
  refine ⟨h.yb, h.yo, h.ub, h.o, fun j hj => ?_, h.oo, h.ww, h.q⟩
  rw [← cnt_next]
  exact h.i j hj
/-- The block of the inputs that are written. -/
theorem NN.at_ (h : NN W b2 b4 B y u s i k w) (hi : i < u.n) (hk : k < (u.g i).t.nI) : ∃ g cs, (u.g i).aI = some ⟨g, 0, none⟩ ∧ Box w g cs ∧ (u.g i).t.nI * 4 ≤ cs.length ∧ ∀ l, l < (u.g i).t.nI → ∀ m v, ((sigI (u.g i).t s k l).cells)[m]? = some v → cs[l * 4 + m]? = some v := by
  rcases h.i i hi with e | h
  · omega
  · have : cnt u i k i = k := by unfold cnt; rw [if_neg (by omega), if_pos rfl]
    rw [this] at h
    exact h
/-- A signature was written. -/
theorem NN.step {g : Nat} {cs : List Value} (h : NN W b2 b4 B y u s i k w) (K : NK W b2 b4 N1 N2 y u) (hi : i < u.n) (hk : k < (u.g i).t.nI) (hg : (u.g i).aI = some ⟨g, 0, none⟩) (hl : (u.g i).t.nI * 4 ≤ cs.length)
    (hc : ∀ l, l < (u.g i).t.nI → ∀ m v, ((sigI (u.g i).t s k l).cells)[m]? = some v → cs[l * 4 + m]? = some v) (hB : Box w' g (cs.set (k * 4 + 3) (.string s))) (c : Ch g w w') :
    NN W b2 b4 B y u s i (k + 1) w' := by
  have hat : (u.g i).at' g := .inl ⟨_, hg, rfl⟩
  obtain ⟨g1, g2⟩ := K.at_ i hi g hat
  have K1 := K.l2; have K2 := K.l4; have K3 := K.w1
  refine ⟨h.yb.ch c (by omega), h.yo.chn c (fun x hx => by have := K.ya x hx; omega) (fun j hj ho => by have := K.yt j hj g ho; omega), h.ub.ch c (by omega), h.o.ch c (fun x hx => Ne.symm (K.l i hi g hat x hx)), fun j hj => ?_, fun j hj => ?_, fun j hj => ?_, c.q h.q (by omega)⟩
  · by_cases e : j = i
    · subst e
      refine .inr ⟨g, _, hg, hB, by rw [List.length_set]; exact hl, fun l hl' m v hv => ?_⟩
      have ec : cnt u j (k + 1) j = k + 1 := by unfold cnt; rw [if_neg (by omega), if_pos rfl]
      rw [ec] at hv
      have hm : m < 4 := (List.getElem?_eq_some_iff.1 hv).1
      by_cases e : l = k
      · subst e
        have e0 : sigI (u.g j).t s (l + 1) l = ⟨((u.g j).t.ins l).tx, ((u.g j).t.ins l).out, ((u.g j).t.ins l).path, s⟩ := by unfold sigI; rw [if_pos (by omega)]
        have e1 : sigI (u.g j).t s l l = (u.g j).t.ins l := by unfold sigI; rw [if_neg (by omega)]
        rw [e0] at hv
        by_cases ej : m = 3
        · subst ej
          rw [List.getElem?_set_self (by omega)]
          exact hv
        · rw [List.getElem?_set_ne (by omega)]
          refine hc l hl' m v ?_
          rw [e1, ← hv]
          rcases (show m = 0 ∨ m = 1 ∨ m = 2 by omega) with rfl | rfl | rfl <;> rfl
      · rw [List.getElem?_set_ne (by omega)]
        refine hc l hl' m v ?_
        rw [← hv]
        have : sigI (u.g j).t s k l = sigI (u.g j).t s (k + 1) l := by
          unfold sigI
          by_cases h : l < k
          · rw [if_pos h, if_pos (by omega)]
          · rw [if_neg h, if_neg (by omega)]
        rw [this]
    · have ec : cnt u i (k + 1) j = cnt u i k j := by unfold cnt; simp only [if_neg e]
      rw [ec]
      rcases h.i j hj with e0 | ⟨g', cs', h1, h2, h3⟩
      · exact .inl e0
      · refine .inr ⟨g', cs', h1, h2.ch c (fun eg => ?_), h3⟩
        subst eg
        have hat' : (u.g j).at' g' := .inl ⟨_, h1, rfl⟩
        rcases Nat.lt_or_gt_of_ne e with h | h
        · exact K.d j i h hi g' hat' hat
        · exact K.d i j h hj g' hat hat'
  · refine (h.oo j hj).ch c (fun x hx eg => ?_)
    by_cases e : j = i
    · subst e
      exact (K.p j hj).1 _ x hg hx eg.symm
    · have hat' : (u.g j).at' g := .inr (.inl ⟨x, hx, eg⟩)
      rcases Nat.lt_or_gt_of_ne e with h | h
      · exact K.d j i h hi g hat' hat
      · exact K.d i j h hj g hat hat'
  · refine (h.ww j hj).ch c (fun x hx eg => ?_)
    by_cases e : j = i
    · subst e
      exact (K.p j hj).2 _ x hg hx eg.symm
    · have hat' : (u.g j).at' g := .inr (.inr ⟨x, hx, eg⟩)
      rcases Nat.lt_or_gt_of_ne e with h | h
      · exact K.d j i h hi g hat' hat
      · exact K.d i j h hj g hat hat'
/-- The second block, with other signatures. -/
def setB (u : BKI) (s : ByteArray) : BKI := ⟨u.h, u.prev, u.n, fun j => ⟨setS (u.g j).t s (u.g j).t.p, (u.g j).aI, (u.g j).cI, (u.g j).aO, (u.g j).cO, (u.g j).aW, (u.g j).cW⟩, u.a, u.c⟩
theorem NN.done (h : NN W b2 b4 B y u s u.n 0 w) (K : NK W b2 b4 N1 N2 y u) (hs : s.size ≤ 1000000) : BB w b4 (setB u s) := by
  refine ⟨h.ub, ⟨?_, fun j hj => ⟨?_, K.c j hj, h.oo j hj, h.ww j hj⟩, fun j hj => ?_⟩⟩
  · rcases h.o with e | ⟨b, off, e, h⟩
    · exact .inl e
    · exact .inr ⟨b, off, e, h⟩
  · have hj' : j < u.n := hj
    rcases h.i j hj' with e | ⟨g, cs, h1, hB, _, hc⟩
    · exact .inl e
    · refine .inr ⟨g, 0, h1, fun l hl m v hv => ?_⟩
      rw [Nat.zero_add]
      refine hB.at_ _ _ (hc l hl m v ?_)
      rw [← hv]
      have ec : cnt u u.n 0 j = (u.g j).t.nI := by unfold cnt; rw [if_pos hj']
      rw [ec]
      have hl' : l < (u.g j).t.nI := hl
      unfold sigI
      rw [if_pos hl']
      rfl
  · have hk := K.k j hj
    exact ⟨hk.nI, fun i hi => ⟨(hk.ins i hi).tx, (hk.ins i hi).out, (hk.ins i hi).path, hs⟩, hk.nO, hk.outs, hk.p⟩
theorem bidS_set (h : y.h = u.h) (hp : y.prev = u.prev) (hn : y.n = u.n) (ht : ∀ j, j < u.n → (u.g j).t = (y.g j).t) : bidS (setB u s) = bidS y := by
  have e : catN (fun i => idS ((setB u s).g i).t) u.n = catN (fun i => idS (y.g i).t) u.n := catN_congr _ _ u.n fun i hi => by
    show idS (setS (u.g i).t s (u.g i).t.p) = _
    rw [id_setS, ht i hi]
  show tagS wBlock (tri (putS u.h) u.prev (catN (fun i => idS ((setB u s).g i).t) u.n)) 3 = tagS wBlock (tri (putS y.h) y.prev (catN (fun i => idS (y.g i).t) y.n)) 3
  rw [e, h, hp, hn]
/-- A block of one's own, as it is handed in. -/
theorem BO.inn {w : World} {B : Nat} {y : BKI} (h : BO w B y) (hk : y.ok) : y.In w :=
  have h' := h.o.ins txi_len (P := fun _ => True) fun _ _ => trivial
  ⟨hk.h, Nat.le_trans hk.prev (by decide), h.o.sl txi_len, h'.le, h'.cap, fun i hi =>
    ⟨(h.m i hi).i.ins in_len fun j hj => wide_of_ok_in ((h.k i hi).ins j hj), (h.m i hi).o.ins out_len fun j hj => wide_of_ok_out ((h.k i hi).outs j hj), (h.m i hi).w.ins win_len fun j hj => wide_of_ok_win ((h.k i hi).p.w j hj),
      (h.k i hi).p.amount, Nat.le_trans (h.k i hi).p.sig (by decide), Nat.le_trans (h.k i hi).p.token (by decide)⟩⟩
end
end Go.Proofs.YtjiepemapffgjaaGreatDoor.Coi
