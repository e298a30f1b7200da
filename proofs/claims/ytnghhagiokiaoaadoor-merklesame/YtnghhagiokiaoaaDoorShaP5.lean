/-
  The program's layer 2: what Write does to a Hash's memory.
-/
import Derived.Test.YtnghhagiokiaoaaDoorShaP4
import Derived.ScopeJumps
namespace Go.Proofs.YtnghhagiokiaoaaDoor.Sh
open Go.RowKit
open Mem
set_option linter.unusedVariables false

/-- The cells of a text. -/
def bcl (s : ByteArray) : List Value := s.data.toList.map fun x => Value.int .u8 (x.toNat : Int)
theorem bcl_len (s : ByteArray) : (bcl s).length = s.size := by unfold bcl; rw [List.length_map, Array.length_toList]; rfl
theorem bcl_get (s : ByteArray) (j : Nat) (h : j < s.size) : (bcl s)[j]? = some (.int .u8 ((sb s).getD j 0)) := by
  have e : bcl s = (sb s).map (Value.int .u8) := by unfold bcl sb; rw [List.map_map]; rfl
  rw [e, List.getElem?_map, List.getD_eq_getElem?_getD, List.getElem?_eq_getElem (by rw [sb_len]; exact h)]
  rfl

theorem HC.copied {w : World} {g : Nat} {T : ByteArray} {c : Nat} (h : HC w g T c) (rem : ByteArray) (hr : sb rem = (sb T).drop c) (n : Nat) (hn : n ≤ rem.size) (hle : c % 64 + n ≤ 64) :
    ∃ r2, Byts r2 ∧ Row .u32 (w.setCells g (8 + c % 64) ((bcl rem).take n)) g 0 8 (blkF (sf T) (c / 64)) ∧ Row .u8 (w.setCells g (8 + c % 64) ((bcl rem).take n)) g 8 64 r2 ∧
      (∀ j, j < c % 64 + n → r2 j = sf T (64 * (c / 64) + j)) ∧ (w.setCells g (8 + c % 64) ((bcl rem).take n)).cell? ⟨g, 72, none⟩ = some (.int .i64 T.size) ∧ ∀ j, (w.setCells g (8 + c % 64) ((bcl rem).take n)).frozen? ⟨g, j, none⟩ = false := by
  obtain ⟨r, hr1, hr2, hr3⟩ := h.rest
  have hlen : ((bcl rem).take n).length = n := by rw [List.length_take, bcl_len]; omega
  refine ⟨fun j => if c % 64 ≤ j ∧ j < c % 64 + n then (sb rem).getD (j - c % 64) 0 else r j, fun j => ?_, ?_, ?_, ?_, ?_, ?_⟩
  · dsimp only
    split
    · exact getD_byts (sb_byts rem) _
    · exact hr1 j
  · exact h.st.apart _ _ _ (by rw [hlen]; omega)
  · intro j hj
    show _ = some (Value.int .u8 (if c % 64 ≤ j ∧ j < c % 64 + n then (sb rem).getD (j - c % 64) 0 else r j))
    by_cases a : c % 64 ≤ j ∧ j < c % 64 + n
    · rw [if_pos a]
      have := World.cell?_setCells_in g ((bcl rem).take n) (8 + c % 64) w (fun i hi => by rw [show 8 + c % 64 + i = 8 + (c % 64 + i) by omega, hr2 (c % 64 + i) (by omega)]; rfl) (j - c % 64) (by omega)
      rw [show 8 + c % 64 + (j - c % 64) = 8 + j by omega] at this
      rw [this, ← List.getElem?_eq_getElem, List.getElem?_take_of_lt (by omega), bcl_get _ _ (by omega)]
    · rw [if_neg a, World.cell?_setCells_out g _ _ w ⟨g, 8 + j, none⟩ (fun _ _ => by rw [hlen]; show 8 + j < 8 + c % 64 ∨ 8 + c % 64 + n ≤ 8 + j; omega)]
      exact hr2 j hj
  · intro j hj
    show (if c % 64 ≤ j ∧ j < c % 64 + n then (sb rem).getD (j - c % 64) 0 else r j) = _
    by_cases a : c % 64 ≤ j
    · rw [if_pos ⟨a, hj⟩, hr]
      unfold sf
      rw [List.getD_eq_getElem?_getD, List.getD_eq_getElem?_getD, List.getElem?_drop, show c + (j - c % 64) = 64 * (c / 64) + j by omega]
    · rw [if_neg (by omega)]
      exact hr3 j (by omega)
  · rw [World.cell?_setCells_out g _ _ w ⟨g, 72, none⟩ (fun _ _ => by rw [hlen]; show 72 < 8 + c % 64 ∨ 8 + c % 64 + n ≤ 72; omega)]
    exact h.tk
  · intro j
    rw [World.frozen?_setCells]
    exact h.fz j

/-- The count goes up: the Hash counts T, of which it has c. -/
theorem HC.count {w : World} {g : Nat} {s : ByteArray} (h : HR w g s) (p : ByteArray) : HC (w.setCell ⟨g, 72, none⟩ (.int .i64 (s ++ p).size)) g (s ++ p) s.size := by
  have h' : HC w g s s.size := h
  obtain ⟨r, hr1, hr2, hr3⟩ := h'.rest
  refine ⟨?_, ⟨r, hr1, ?_, fun j hj => ?_⟩, ?_, fun j => ?_⟩
  · rw [blkF_congr (s.size / 64) (fun j hj => sf_left s p j (by omega))]
    exact h'.st.apart g 72 [_] (by omega)
  · exact hr2.apart g 72 [_] (by omega)
  · rw [hr3 j hj, sf_left s p _ (by omega)]
  · exact World.cell?_setCell_same _ _ _ h'.tk
  · have := h'.fz j
    simpa using this

/-- A block is full: its words are mixed into the state. -/
theorem HC.mixed {w w4 : World} {g : Nat} {T : ByteArray} {m c : Nat} {r : Nat → Int} (h8 : Row .u8 w g 8 64 r) (hB : Byts r) (hr : ∀ j, j < 64 → r j = sf T (64 * m + j)) (hst : Row .u32 w g 0 8 (blkF (sf T) m)) (htk : w.cell? ⟨g, 72, none⟩ = some (.int .i64 T.size)) (hf : ∀ j, w.frozen? ⟨g, j, none⟩ = false)
    (q : Q w w4) (hc : c = 64 * (m + 1)) : HC (w4.setCells g 0 (cl .u32 8 (mixS (wrow r 48) (blkF (sf T) m)))) g T c := by
  have hg := hst.lt (by omega)
  have e1 : c / 64 = m + 1 := by omega
  have e2 : c % 64 = 0 := by omega
  have hs4 : w4.there g 0 8 := (Row.q hst q hg).there fun j => by rw [q.frozen (p := ⟨g, j, none⟩) hg]; exact hf j
  refine ⟨?_, ⟨r, hB, (Row.q h8 q hg).apart g 0 _ (by rw [cl_len]; omega), fun j hj => by omega⟩, ?_, fun j => ?_⟩
  · rw [e1, ← mix_step (sf T) m r hr]
    exact Row.stored hs4
  · rw [World.cell?_setCells_out g _ _ w4 ⟨g, 72, none⟩ (fun _ _ => by rw [cl_len]; show 72 < 0 ∨ 0 + 8 ≤ 72; omega), q.cell (p := ⟨g, 72, none⟩) hg]
    exact htk
  · rw [World.frozen?_setCells, q.frozen (p := ⟨g, j, none⟩) hg]
    exact hf j

theorem pwords_c {W : World} (b : Nat → Int) (w : World) (q : Q W w) (hB : Byts b) (C D : List Value) (hC : cl .u8 64 b = C) (hD : cl .u32 64 (wrow b 48) = D) :
    Calls Tryd.prog 93 #[.agg C.toArray] w fun e w' => e = .returned (.agg D.toArray) ∧ Q W w' := by
  subst hC hD
  exact pwords_any b w q hB
theorem mixed_c {W : World} (st wf : Nat → Int) (w : World) (q : Q W w) (hG : GL W) (wst : ∀ i, Wd (st i)) (wwf : ∀ i, Wd (wf i)) (A B E : List Value) (hA : cl .u32 8 st = A) (hB : cl .u32 64 wf = B) (hE : cl .u32 8 (mixS wf st) = E) :
    Calls Tryd.prog 92 #[.agg A.toArray, .agg B.toArray] w fun e w' => e = .returned (.agg E.toArray) ∧ Q W w' := by
  subst hA hB hE
  exact mixed_any st wf w q hG wst wwf
theorem wpOp_of {P : Program} {ops : Array Oper} {Q : Exit → Act → World → Prop} {i : Nat} {K : Act → World → Prop} {a : Act} {w : World} {o : Oper} (hi : ops[i]? = some o) (hw : Region.wanted o (yielded ops a.tmps) = true) (h : o.wp P a w K Q) : wpOp P ops Q i K a w := by
  unfold wpOp
  rw [hi]
  simp only [hw, if_true]
  exact .inl h
/-- A scope with one label to which the run goes back: J holds wherever it stands at the label. -/
theorem wp_scope_loop {P : Program} {a : Act} {w : World} {Q : Exit → Act → World → Prop} {c X : Code} (l : Nat) (J : Act → World → Prop) (μ : Act → World → Nat) (hf : findLabel c l = some (Code.skip.seq X))
    (pass : ∀ a w, J a w → X.wp P (Exit.jump l (fun a' w' => J a' w' ∧ μ a' w' < μ a w) Q) a w)
    (first : (∀ a w, J a w → X.wp P (Exit.jump l J Q) a w) → c.wp P (Exit.jump l J Q) a w) : (Code.scope c).wp P Q a w :=
  wp_scope_jumps l J μ hf (first fun a w h => wp_mono (pass a w h) fun e a' w' hq => by
    cases e with
    | goto l' => exact ⟨hq.1, hq.2.1⟩
    | normal => exact hq
    | exit id => exact hq
    | ret => exact hq
    | panic ch => exact hq
    | outgrown => exact hq) (fun a w h => by
      apply wp_seq_k
      intro K hK
      apply wp_skip
      exact hK _ _ (pass a w h))
def strLen : Value → Nat
  | .string b => b.size
  | _ => 0
end Go.Proofs.YtnghhagiokiaoaaDoor.Sh
